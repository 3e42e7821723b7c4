/-
  Parts laid together: ShaSpec FrameSpec FrameGetSpec FrameBackSpec FrameCutSpec JournalSpec JournalKeep JournalLay JournalMore JournalTop JText JInv JWriteSpec FrameOkSpec.
-/
import Derived.Test.YtkbehjdglgpgjaaGreatPart2
import Derived.Test.YtkbehjdglgpgjaaGreatPart1

namespace Go.Proofs.YtkbehjdglgpgjaaGreat.Sha

theorem mod32 (x : Int) : W32 (x % 4294967296) := by unfold W32; omega
def wordOf (b : List Int) (i : Nat) : Int :=
 bits .or .u32 (bits .or .u32 (bits .or .u32 (at_ b (4 * i) * 16777216) (at_ b (4 * i + 1) * 65536)) (at_ b (4 * i + 2) * 256)) (at_ b (4 * i + 3))
theorem wordOf32 (b : List Int) (i : Nat) : W32 (wordOf b i) := bits32 _ _ _
def near (y : Int) : Int := bits .xor .u32 (bits .xor .u32 (rotr y 17) (rotr y 19)) (y / 1024)
def far (x : Int) : Int := bits .xor .u32 (bits .xor .u32 (rotr x 7) (rotr x 18)) (x / 8)
def nxw (y b x d : Int) : Int := (near y + b + far x + d) % 4294967296
def nxl (l : List Int) : Int := nxw (at_ l (l.length - 2)) (at_ l (l.length - 7)) (at_ l (l.length - 15)) (at_ l (l.length - 16))
def grow (l : List Int) : Nat → List Int
 | 0 => l
 | n + 1 => let m := grow l n; m ++ [nxl m]
theorem grow_len (l : List Int) (n : Nat) : (grow l n).length = l.length + n := by
 induction n with
 | zero => rfl
 | succ n ih => simp [grow, ih]; omega
theorem grow_old (l : List Int) (n i : Nat) (h : i < l.length) : at_ (grow l n) i = at_ l i := by
 induction n with
 | zero => rfl
 | succ n ih => rw [grow, at_append_left (by rw [grow_len]; omega), ih]
theorem grow_less (l : List Int) (n m i : Nat) (hm : m ≤ n) (h : i < l.length + m) : at_ (grow l n) i = at_ (grow l m) i := by
  induction n with
  | zero => obtain rfl : m = 0 := by omega
            rfl
  | succ n ih =>
    by_cases e : m = n + 1
    · subst e; rfl
    · rw [grow, at_append_left (by rw [grow_len]; omega), ih (by omega)]
theorem grow_new (l : List Int) (h16 : 16 ≤ l.length) (n i : Nat) (h0 : l.length ≤ i) (h : i < l.length + n) :
  at_ (grow l n) i = nxw (at_ (grow l n) (i - 2)) (at_ (grow l n) (i - 7)) (at_ (grow l n) (i - 15)) (at_ (grow l n) (i - 16)) := by
 obtain ⟨k, rfl⟩ : ∃ k, i = l.length + k := ⟨i - l.length, by omega⟩
 rw [grow_less l n (k + 1) _ (by omega) (by omega), grow_less l n k (l.length + k - 2) (by omega) (by omega), grow_less l n k (l.length + k - 7) (by omega) (by omega),
  grow_less l n k (l.length + k - 15) (by omega) (by omega), grow_less l n k (l.length + k - 16) (by omega) (by omega)]
 rw [grow, at_append_right (by rw [grow_len]; omega), grow_len, Nat.sub_self]
 simp only [nxl, grow_len]
 rfl
def sched (b : List Int) : List Int := grow ((List.range 16).map (wordOf b)) 48
theorem sched_len (b : List Int) : (sched b).length = 64 := by simp [sched, grow_len]
theorem sched_lo (b : List Int) (i : Nat) (h : i < 16) : at_ (sched b) i = wordOf b i := by
 rw [sched, grow_old _ _ _ (by simpa using h), at_range _ _ _ h]
theorem sched_hi (b : List Int) (i : Nat) (h0 : 16 ≤ i) (h : i < 64) : at_ (sched b) i = nxw (at_ (sched b) (i - 2)) (at_ (sched b) (i - 7)) (at_ (sched b) (i - 15)) (at_ (sched b) (i - 16)) :=
 grow_new _ (by simp) 48 i (by simpa using h0) (by simpa using h)
theorem sched32 (b : List Int) (i : Nat) : W32 (at_ (sched b) i) := by
 by_cases h : i < 16
 ·rw [sched_lo b i h]; exact wordOf32 _ _
 ·by_cases h2 : i < 64
  ·rw [sched_hi b i (by omega) h2]; unfold nxw W32; omega
  ·unfold at_; rw [List.getD_eq_getElem?_getD, List.getElem?_eq_none (by rw [sched_len]; omega)]; exact ⟨by simp, by simp⟩
structure S8 where
 a : Int
 b : Int
 c : Int
 d : Int
 e : Int
 f : Int
 g : Int
 h : Int
def S8.toL (s : S8) : List Int := [s.a, s.b, s.c, s.d, s.e, s.f, s.g, s.h]
def S8.ok (s : S8) : Prop := W32 s.a ∧ W32 s.b ∧ W32 s.c ∧ W32 s.d ∧ W32 s.e ∧ W32 s.f ∧ W32 s.g ∧ W32 s.h
def not32 (x : Int) : Int := bits .xor .u32 IntKind.u32.max x
def ch (e f g : Int) : Int := bits .xor .u32 (bits .and .u32 e f) (bits .and .u32 (not32 e) g)
def maj (a b c : Int) : Int := bits .xor .u32 (bits .xor .u32 (bits .and .u32 a b) (bits .and .u32 a c)) (bits .and .u32 b c)
def step (s : S8) (k w : Int) : S8 :=
 let t1 := (s.h + turns3 s.e 6 11 25 + ch s.e s.f s.g + k + w) % 4294967296
 let t2 := (turns3 s.a 2 13 22 + maj s.a s.b s.c) % 4294967296
 ⟨(t1 + t2) % 4294967296, s.a, s.b, s.c, (s.d + t1) % 4294967296, s.e, s.f, s.g⟩
theorem step_ok {s : S8} (h : s.ok) (k w : Int) : (step s k w).ok := by
 obtain ⟨h1, h2, h3, h4, h5, h6, h7, h8⟩ := h
 refine ⟨?_, h1, h2, h3, ?_, h5, h6, h7⟩
 ·exact mod32 _
 ·exact mod32 _
def rnds (s : S8) (w : Nat → Int) : Nat → S8
 | 0 => s
 | n + 1 => step (rnds s w n) (kW n : Nat) (w n)
theorem rnds_ok {s : S8} (h : s.ok) (w : Nat → Int) (n : Nat) : (rnds s w n).ok := by
 induction n with
 | zero => exact h
 | succ n ih => exact step_ok ih _ _
def S8.add (s t : S8) : S8 := ⟨(s.a + t.a) % 4294967296, (s.b + t.b) % 4294967296, (s.c + t.c) % 4294967296, (s.d + t.d) % 4294967296, (s.e + t.e) % 4294967296, (s.f + t.f) % 4294967296, (s.g + t.g) % 4294967296, (s.h + t.h) % 4294967296⟩
theorem S8.add_ok (s t : S8) : (s.add t).ok := by
 unfold S8.add S8.ok W32
 refine ⟨?_, ?_, ?_, ?_, ?_, ?_, ?_, ?_⟩ <;> constructor <;> simp only <;> omega
theorem S8.add_at (s t : S8) (i : Nat) (h : i < 8) : at_ (s.add t).toL i = (at_ s.toL i + at_ t.toL i) % 4294967296 := by
 match i, h with
 | 0, _ | 1, _ | 2, _ | 3, _ | 4, _ | 5, _ | 6, _ | 7, _ => rfl
theorem S8.at32 {s : S8} (h : s.ok) (i : Nat) : W32 (at_ s.toL i) := by
 obtain ⟨h1, h2, h3, h4, h5, h6, h7, h8⟩ := h
 match i with
 | 0 => exact h1
 | 1 => exact h2
 | 2 => exact h3
 | 3 => exact h4
 | 4 => exact h5
 | 5 => exact h6
 | 6 => exact h7
 | 7 => exact h8
 | n + 8 => exact ⟨by simp [at_, S8.toL], by simp [at_, S8.toL]⟩
def mixed (s : S8) (b : List Int) : S8 := s.add (rnds s (at_ (sched b)) 64)
theorem mixed_ok (s : S8) (b : List Int) : (mixed s b).ok := S8.add_ok _ _
def blocks (s : S8) : Nat → List Int → S8
 | 0, _ => s
 | n + 1, l => blocks (mixed s (l.take 64)) n (l.drop 64)
theorem blocks_ok {s : S8} (h : s.ok) (n : Nat) (l : List Int) : (blocks s n l).ok := by
 induction n generalizing s l with
 | zero => exact h
 | succ n ih => exact ih (mixed_ok _ _) _
theorem blocks_add (s : S8) (n m : Nat) (l : List Int) : blocks s (n + m) l = blocks (blocks s n l) m (l.drop (64 * n)) := by
  induction n generalizing s l with
  | zero => simp [blocks]
  | succ n ih =>
    rw [show n + 1 + m = n + m + 1 by omega]
    simp only [blocks]
    rw [ih, List.drop_drop]
    congr 2
    omega
theorem blocks_take (s : S8) (n : Nat) (l : List Int) (m : Nat) (h : 64 * n ≤ m) : blocks s n (l.take m) = blocks s n l := by
  induction n generalizing s l m with
  | zero => rfl
  | succ n ih =>
    simp only [blocks]
    rw [List.take_take, show min 64 m = 64 by omega, List.drop_take, ih _ _ _ (by omega)]
theorem blocks_append (s : S8) (n : Nat) (l r : List Int) (h : 64 * n ≤ l.length) : blocks s n (l ++ r) = blocks s n l := by
 rw [← blocks_take s n (l ++ r) l.length h, List.take_left]
def S0 : S8 := ⟨(hW 0 : Nat), (hW 1 : Nat), (hW 2 : Nat), (hW 3 : Nat), (hW 4 : Nat), (hW 5 : Nat), (hW 6 : Nat), (hW 7 : Nat)⟩
theorem S0_ok : S0.ok := by
 have h := hW_lt
 have h0 := h 0 (by omega); have h1 := h 1 (by omega); have h2 := h 2 (by omega); have h3 := h 3 (by omega)
 have h4 := h 4 (by omega); have h5 := h 5 (by omega); have h6 := h 6 (by omega); have h7 := h 7 (by omega)
 unfold S8.ok S0 W32
 refine ⟨?_, ?_, ?_, ?_, ?_, ?_, ?_, ?_⟩ <;> constructor <;> simp only <;> omega
def st (l : List Int) : S8 := blocks S0 (l.length / 64) l
theorem st_ok (l : List Int) : (st l).ok := blocks_ok S0_ok _ _
theorem st_block (l b : List Int) (hl : l.length % 64 = 0) (hb : b.length = 64) : st (l ++ b) = mixed (st l) b := by
 unfold st
 rw [List.length_append, hb, show (l.length + 64) / 64 = l.length / 64 + 1 by omega, blocks_add, blocks_append _ _ _ _ (by omega)]
 rw [show 64 * (l.length / 64) = l.length by omega, List.drop_left]
 simp only [blocks]
 rw [List.take_of_length_le (by omega)]
theorem st_rest (l r : List Int) (h : l.length % 64 + r.length < 64) : st (l ++ r) = st l := by
 unfold st
 rw [List.length_append, show (l.length + r.length) / 64 = l.length / 64 by omega, blocks_append _ _ _ _ (by omega)]
def be8 (n : Nat) : List Int := (List.range 8).map fun i => ((n / 256 ^ (7 - i) % 256 : Nat) : Int)
def padn (n : Nat) : Nat := (119 - n % 64) % 64
def tail (n : Nat) : List Int := 128 :: (List.replicate (padn n) 0 ++ be8 (n * 8))
theorem tail_len (n : Nat) : (tail n).length = 9 + padn n := by simp [tail, be8]; omega
theorem padded_len (l : List Int) : (l ++ tail l.length).length % 64 = 0 := by
 rw [List.length_append, tail_len]; unfold padn; omega
def out8 (s : S8) : List Int := s.toL.flatMap fun x => [x / 16777216 % 256, x / 65536 % 256, x / 256 % 256, x % 256]
def sha (l : List Int) : List Int := out8 (st (l ++ tail l.length))
theorem sha_len (l : List Int) : (sha l).length = 32 := rfl
/- what both the code and the document use: sums of states, rounds, bytes put out, the end -/
def addTo (s v : List Int) (k : Nat) : List Int := (List.range 8).map fun i => if i < k then (at_ s i + at_ v i) % 4294967296 else at_ s i
theorem addTo_len (s v : List Int) (k : Nat) : (addTo s v k).length = 8 := by simp [addTo]
theorem addTo_at (s v : List Int) (k i : Nat) (h : i < 8) : at_ (addTo s v k) i = if i < k then (at_ s i + at_ v i) % 4294967296 else at_ s i := at_range _ _ _ h
theorem addTo_0 (s v : List Int) (h : s.length = 8) : addTo s v 0 = s := by
 apply at_ext
 ·rw [addTo_len, h]
 ·intro i hi
  rw [addTo_len] at hi
  rw [addTo_at _ _ _ _ hi]; simp
theorem addTo_8 (s v : S8) : addTo s.toL v.toL 8 = (s.add v).toL := by
 apply at_ext
 ·rw [addTo_len]; rfl
 ·intro i hi
  rw [addTo_len] at hi
  rw [addTo_at _ _ _ _ hi, if_pos hi, S8.add_at _ _ _ hi]
theorem addTo_set (s v : List Int) (k : Nat) : (addTo s v k).set k ((at_ s k + at_ v k) % 4294967296) = addTo s v (k + 1) := by
 apply at_ext
 ·rw [List.length_set, addTo_len, addTo_len]
 ·intro i hi
  rw [List.length_set, addTo_len] at hi
  rw [at_set _ _ _ _ (by rw [addTo_len]; exact hi), addTo_at _ _ _ _ hi, addTo_at _ _ _ _ hi]
  by_cases h : k = i
  ·subst h; simp
  ·rw [if_neg h]
   by_cases h2 : i < k
   ·rw [if_pos h2, if_pos (by omega)]
   ·rw [if_neg h2, if_neg (by omega)]
theorem round_end {s r : S8} {W : Nat → Int} {k : Nat} {t1 t2 : Int} (h : rnds s W k = r)
  (h1 : t1 = (r.h + turns3 r.e 6 11 25 + ch r.e r.f r.g + (kW k : Nat) + W k) % 4294967296) (h2 : t2 = (turns3 r.a 2 13 22 + maj r.a r.b r.c) % 4294967296) :
  rnds s W (k + 1) = ⟨(t1 + t2) % 4294967296, r.a, r.b, r.c, (r.d + t1) % 4294967296, r.e, r.f, r.g⟩ := by
 rw [rnds, h, h1, h2]; rfl
def outK (s : S8) (k : Nat) : List Int := (List.range k).flatMap fun i => [at_ s.toL i / 16777216 % 256, at_ s.toL i / 65536 % 256, at_ s.toL i / 256 % 256, at_ s.toL i % 256]
theorem outK_8 (s : S8) : outK s 8 = out8 s := rfl
theorem outK_succ (s : S8) (k : Nat) : outK s (k + 1) = outK s k ++ [at_ s.toL k / 16777216 % 256, at_ s.toL k / 65536 % 256, at_ s.toL k / 256 % 256, at_ s.toL k % 256] := by simp [outK, List.range_succ]
theorem out8_bytes {s : S8} : Bytes (out8 s) := by
 intro x hx
 unfold out8 at hx
 obtain ⟨y, hy, hx⟩ := List.mem_flatMap.1 hx
 simp only [List.mem_cons, List.not_mem_nil, or_false] at hx
 rcases hx with rfl | rfl | rfl | rfl <;> constructor <;> omega
theorem sha_bytes (l : List Int) : Bytes (sha l) := out8_bytes
theorem padn_le (L : Nat) : padn L ≤ 63 := by unfold padn; omega
theorem be8_bytes (n : Nat) : Bytes (be8 n) := by
 intro x hx
 unfold be8 at hx
 obtain ⟨i, _, rfl⟩ := List.mem_map.1 hx
 omega
theorem tail_bytes (L : Nat) : Bytes (tail L) := by
 intro x hx
 unfold tail at hx
 rcases List.mem_cons.1 hx with rfl | hx
 ·omega
 ·rcases List.mem_append.1 hx with hx | hx
  ·obtain ⟨_, rfl⟩ := List.mem_replicate.1 hx; omega
  ·exact be8_bytes _ x hx
end Go.Proofs.YtkbehjdglgpgjaaGreat.Sha

namespace Go.Proofs.YtkbehjdglgpgjaaGreat.Frame
open Go.Proofs.YtkbehjdglgpgjaaGreat.Sha Go.Proofs.YtkbehjdglgpgjaaGreat.Wire

structure FV where
 kind : Int
 gen : Int
 seq : Int
 body : List Int
def headF (f : FV) : List Int := [99, 102] ++ be f.kind.toNat 1 ++ be 0 1 ++ be f.gen.toNat 4 ++ be f.seq.toNat 4 ++ be f.body.length 4
def textF (f : FV) : List Int := headF f ++ (sha (headF f ++ f.body)).take 8 ++ f.body
def errF (f : FV) : Int := if 60000 < f.body.length then 3 else if fits f.kind 1 = true ∧ fits f.gen 4 = true ∧ fits f.seq 4 = true then 0 else 1
def sectorsF (n : Int) : Int := if n < 0 ∨ 60000 < n then 0 else (24 + n + 62) / 63
theorem fsha_bytes (l : List Int) : Bytes (sha l) := by
 intro x hx
 unfold sha out8 at hx
 obtain ⟨y, hy, hx⟩ := List.mem_flatMap.1 hx
 simp only [List.mem_cons, List.not_mem_nil, or_false] at hx
 rcases hx with rfl | rfl | rfl | rfl <;> constructor <;> omega
theorem textF_bytes' (h : List Int) (hh : Bytes h) (s : List Int) (b : List Int) (hb : Bytes b) : Bytes (h ++ (sha s).take 8 ++ b) := (hh.append ((fsha_bytes s).take 8)).append hb
theorem headF_len (f : FV) : (headF f).length = 16 := by simp [headF, be_len]
theorem textF_len (f : FV) : (textF f).length = 24 + f.body.length := by
 simp only [textF, List.length_append, headF_len, List.length_take, sha_len]
 omega
theorem headF_bytes (f : FV) : Bytes (headF f) := by
 unfold headF
 refine (((((Bytes.append ?_ (be_bytes _ _)).append (be_bytes _ _)).append (be_bytes _ _)).append (be_bytes _ _)).append (be_bytes _ _))
 intro x hx
 simp at hx
 omega
theorem textF_bytes (f : FV) (hb : Bytes f.body) : Bytes (textF f) := textF_bytes' _ (headF_bytes f) _ _ hb
def chunk (b : List Int) (m : Nat) : List Int := (if m = 0 then 1 else 2) :: (b.drop (63 * m)).take 63
def secs (n : Nat) : Nat := (n + 62) / 63
theorem chunk_len (b : List Int) (m : Nat) : (chunk b m).length = 1 + min 63 (b.length - 63 * m) := by
 simp [chunk, List.length_take, List.length_drop]; omega
theorem cat_chunk_len (b : List Int) (m : Nat) (h : m ≤ secs b.length) : (cat (chunk b) m).length = m + min (63 * m) b.length := by
  induction m with
  | zero => simp [cat]
  | succ m ih =>
    have h63 : 63 * m ≤ b.length := by unfold secs at h; omega
    rw [cat, List.length_append, ih (by omega), chunk_len _ _]
    omega
def laid (b : List Int) : List Int := cat (chunk b) (secs b.length) ++ List.replicate (64 * secs b.length - (secs b.length + b.length)) 0
theorem laid_len (b : List Int) : (laid b).length = 64 * secs b.length := by
 rw [laid, List.length_append, cat_chunk_len _ _ (Nat.le_refl _), List.length_replicate]
 unfold secs
 omega
def putF (f : FV) : Int × List Int := (errF f, if errF f = 0 then laid (textF f) else [])
theorem chunk_bytes (b : List Int) (hb : Bytes b) (m : Nat) : Bytes (chunk b m) := by
 intro x hx
 rcases List.mem_cons.1 hx with h | h
 ·subst h; split <;> omega
 ·exact ((hb.drop _).take _) x h
theorem cat_chunk_bytes (b : List Int) (hb : Bytes b) (m : Nat) : Bytes (cat (chunk b) m) := by
 induction m with
 | zero => intro x hx; simp [cat] at hx
 | succ m ih => exact ih.append (chunk_bytes b hb m)
theorem laid_bytes (b : List Int) (hb : Bytes b) : Bytes (laid b) := (cat_chunk_bytes b hb _).append (fun x hx => by have := List.eq_of_mem_replicate hx; omega)
end Go.Proofs.YtkbehjdglgpgjaaGreat.Frame

namespace Go.Proofs.YtkbehjdglgpgjaaGreat.Frame
open Go.Proofs.YtkbehjdglgpgjaaGreat.Sha Go.Proofs.YtkbehjdglgpgjaaGreat.Wire

def h14 (b : List Int) : List Int := (b.take 17).drop 3
def fK (b : List Int) : Nat := val ((h14 b).take 1)
def fG (b : List Int) : Nat := val (((h14 b).drop 2).take 4)
def fS (b : List Int) : Nat := val (((h14 b).drop 6).take 4)
def fN (b : List Int) : Nat := val (((h14 b).drop 10).take 4)
def allF (b : List Int) (k : Nat) : List Int := cat (fun i => (b.drop (64 * i + 1)).take 63) k
def fB (b : List Int) : List Int := ((allF b (sectorsF (fN b)).toNat).take (24 + fN b)).drop 24
def frameOf (b : List Int) : FV := ⟨fK b, fG b, fS b, fB b⟩
def noF : FV := ⟨0, 0, 0, []⟩
def getOk (b : List Int) : Prop := 64 ≤ b.length ∧ at_ b 0 = 1 ∧ sectorsF (fN b) ≠ 0 ∧ 64 * sectorsF (fN b) ≤ b.length ∧ (putF (frameOf b)).1 = 0 ∧ (putF (frameOf b)).2 = b.take (64 * sectorsF (fN b)).toNat
instance (b : List Int) : Decidable (getOk b) := by unfold getOk; infer_instance
def getF (b : List Int) : FV × Int × Int := if getOk b then (frameOf b, sectorsF (fN b), 0) else (noF, 0, 2)
theorem h14_len {b : List Int} (h : 64 ≤ b.length) : (h14 b).length = 14 := by simp [h14]; omega
theorem val4 (l : List Int) (h : Bytes l) (hl : l.length ≤ 4) : val l < 4294967296 := by
 have := val_lt l h
 have h2 : 256 ^ l.length ≤ 256 ^ 4 := Nat.pow_le_pow_right (by omega) hl
 omega
theorem allF_len {b : List Int} (k : Nat) (h : 64 * k ≤ b.length) : (allF b k).length = 63 * k := by
  induction k with
  | zero => rfl
  | succ k ih =>
    unfold allF at *
    rw [cat, List.length_append, ih (by omega), List.length_take, List.length_drop]
    omega
theorem allF_bytes {b : List Int} (h : Bytes b) (k : Nat) : Bytes (allF b k) := by
 induction k with
 | zero => intro x hx; simp [allF, cat] at hx
 | succ k ih => exact ih.append ((h.drop _).take _)
end Go.Proofs.YtkbehjdglgpgjaaGreat.Frame

namespace Go.Proofs.YtkbehjdglgpgjaaGreat.Frame
open Go.Proofs.YtkbehjdglgpgjaaGreat.Sha Go.Proofs.YtkbehjdglgpgjaaGreat.Wire

theorem cat_len {X : Nat → List Int} {c : Nat} (m : Nat) (h : ∀ j, j < m → (X j).length = c) : (cat X m).length = c * m := by
 induction m with
 | zero => rfl
 | succ m ih => rw [cat, List.length_append, ih (fun j hj => h j (by omega)), h m (by omega), Nat.mul_succ]
theorem cat_piece {X : Nat → List Int} {c : Nat} (m : Nat) (h : ∀ j, j < m → (X j).length = c) (i : Nat) (hi : i < m) (r : List Int) : ((cat X m ++ r).drop (c * i)).take c = X i := by
  induction m generalizing r with
  | zero => omega
  | succ m ih =>
    rw [cat, List.append_assoc]
    by_cases h1 : i < m
    · exact ih (fun j hj => h j (by omega)) h1 (X m ++ r)
    · obtain rfl : i = m := by omega
      rw [← cat_len i (fun j hj => h j (by omega)), List.drop_append_of_le_length (Nat.le_refl _), List.drop_length, List.nil_append, List.take_append_of_le_length (by rw [h i (by omega)]; exact Nat.le_refl _), List.take_of_length_le (by rw [h i (by omega)]; exact Nat.le_refl _)]
theorem cat_pieces (l : List Int) (c m : Nat) : cat (fun i => (l.drop (c * i)).take c) m = l.take (c * m) := by
 induction m with
 | zero => simp [cat]
 | succ m ih => rw [cat, ih, Nat.mul_succ, List.take_add]
theorem cat_congr {X Y : Nat → List Int} (m : Nat) (h : ∀ i, i < m → X i = Y i) : cat X m = cat Y m := by
 induction m with
 | zero => rfl
 | succ m ih => rw [cat, cat, ih (fun i hi => h i (by omega)), h m (by omega)]
def padF (t : List Int) : List Int := t ++ List.replicate (63 * secs t.length - t.length) 0
theorem padF_len (t : List Int) : (padF t).length = 63 * secs t.length := by
 unfold padF; rw [List.length_append, List.length_replicate]; unfold secs; omega
def mk (i : Nat) : Int := if i = 0 then 1 else 2
theorem laid_is (t : List Int) : laid t = cat (fun i => mk i :: ((padF t).drop (63 * i)).take 63) (secs t.length) := by
  have hS : ∀ m, m ≤ secs t.length → m < secs t.length ∨ m = 0 → cat (chunk t) m = cat (fun i => mk i :: ((padF t).drop (63 * i)).take 63) m := by
    intro m hm h2
    apply cat_congr
    intro i hi
    have : 63 * (i + 1) ≤ t.length := by unfold secs at *; omega
    unfold chunk mk padF
    rw [List.drop_append_of_le_length (by omega), List.take_append_of_le_length (by rw [List.length_drop]; omega)]
  unfold laid
  cases h : secs t.length with
  | zero =>
    have : t.length = 0 := by unfold secs at h; omega
    simp [cat, this]
  | succ m =>
    rw [cat, cat, hS m (by omega) (by omega), List.append_assoc]
    congr 1
    unfold chunk mk padF
    rw [List.cons_append]
    congr 1
    have h1 : 63 * m ≤ t.length := by unfold secs at h; omega
    have h2 : t.length ≤ 63 * m + 63 := by unfold secs at h; omega
    rw [List.drop_append_of_le_length h1, List.take_of_length_le (by rw [List.length_drop]; omega), List.take_of_length_le (by rw [List.length_append, List.length_drop, List.length_replicate, h]; omega)]
    congr 2
    rw [h]; omega
theorem laid_piece (t r : List Int) (i : Nat) (hi : i < secs t.length) : ((laid t ++ r).drop (64 * i)).take 64 = mk i :: ((padF t).drop (63 * i)).take 63 := by
 rw [laid_is]
 exact cat_piece (X := fun i => mk i :: ((padF t).drop (63 * i)).take 63) (secs t.length) (fun j hj => by simp only [List.length_cons, List.length_take, List.length_drop, padF_len]; omega) i hi r
theorem laid_mark (t r : List Int) (i : Nat) (hi : i < secs t.length) : at_ ((laid t ++ r).drop (64 * i)) 0 = mk i := by
 have h := laid_piece t r i hi
 have h2 := at_take (l := (laid t ++ r).drop (64 * i)) (n := 64) (i := 0) (by omega)
 rw [h] at h2
 rw [← h2]; rfl
theorem laid_body (t r : List Int) (i : Nat) (hi : i < secs t.length) : ((laid t ++ r).drop (64 * i + 1)).take 63 = ((padF t).drop (63 * i)).take 63 := by
 have h := congrArg (List.drop 1) (laid_piece t r i hi)
 rw [List.drop_take, List.drop_drop] at h
 exact h
theorem laid_all (t r : List Int) : allF (laid t ++ r) (secs t.length) = padF t := by
 unfold allF
 rw [cat_congr (Y := fun i => ((padF t).drop (63 * i)).take 63) _ (fun i hi => laid_body t r i hi), cat_pieces, List.take_of_length_le (by rw [padF_len]; exact Nat.le_refl _)]
theorem laid_head (t r : List Int) (h : 24 ≤ t.length) : h14 (laid t ++ r) = (t.take 16).drop 2 := by
 have h0 := laid_piece t r 0 (by unfold secs; omega)
 simp only [Nat.mul_zero, List.drop_zero] at h0
 have h1 : (laid t ++ r).take 17 = ((laid t ++ r).take 64).take 17 := by rw [List.take_take]; rfl
 unfold h14
 rw [h1, h0]
 show List.drop 2 (((padF t).take 63).take 16) = _
 rw [List.take_take, show min 16 63 = 16 from rfl]
 unfold padF
 rw [List.take_append_of_le_length (by omega)]
theorem fits_small {n : Int} {s : Nat} (h : fits n s = true) : ((val (be n.toNat s) : Nat) : Int) = n := by
 obtain ⟨h1, -, -, -, h2⟩ := fits_be h
 rw [Int.toNat_natCast] at h1
 rw [h1]; omega
theorem get_put (f : FV) (r : List Int) (he : errF f = 0) : getF (laid (textF f) ++ r) = (f, sectorsF f.body.length, 0) := by
 obtain ⟨hn, f1, f2, f3⟩ : f.body.length ≤ 60000 ∧ fits f.kind 1 = true ∧ fits f.gen 4 = true ∧ fits f.seq 4 = true := by
  unfold errF at he
  split at he
  ·omega
  ·split at he
   ·next h1 h2 => exact ⟨by omega, h2⟩
   ·omega
 have hL := textF_len f
 have hS : secs (textF f).length = (24 + f.body.length + 62) / 63 := by unfold secs; rw [hL]
 have hK : sectorsF f.body.length = ((secs (textF f).length : Nat) : Int) := by unfold sectorsF; rw [if_neg (by omega), hS]; omega
 have hh : h14 (laid (textF f) ++ r) = be f.kind.toNat 1 ++ be 0 1 ++ be f.gen.toNat 4 ++ be f.seq.toNat 4 ++ be f.body.length 4 := by
  rw [laid_head _ _ (by omega)]
  have : (textF f).take 16 = headF f := by
   unfold textF
   rw [List.append_assoc, List.take_append_of_le_length (by rw [headF_len]; exact Nat.le_refl _), List.take_of_length_le (by rw [headF_len]; exact Nat.le_refl _)]
  rw [this]
  unfold headF
  rfl
 have k1 : ((fK (laid (textF f) ++ r) : Nat) : Int) = f.kind := by
  unfold fK
  rw [hh]
  rw [show (be f.kind.toNat 1 ++ be 0 1 ++ be f.gen.toNat 4 ++ be f.seq.toNat 4 ++ be f.body.length 4).take 1 = be f.kind.toNat 1 by simp [be]]
  exact fits_small (s := 1) f1
 have k2 : ((fG (laid (textF f) ++ r) : Nat) : Int) = f.gen := by
  unfold fG
  rw [hh]
  rw [show ((be f.kind.toNat 1 ++ be 0 1 ++ be f.gen.toNat 4 ++ be f.seq.toNat 4 ++ be f.body.length 4).drop 2).take 4 = be f.gen.toNat 4 by simp [be]]
  exact fits_small (s := 4) f2
 have k3 : ((fS (laid (textF f) ++ r) : Nat) : Int) = f.seq := by
  unfold fS
  rw [hh]
  rw [show ((be f.kind.toNat 1 ++ be 0 1 ++ be f.gen.toNat 4 ++ be f.seq.toNat 4 ++ be f.body.length 4).drop 6).take 4 = be f.seq.toNat 4 by simp [be]]
  exact fits_small (s := 4) f3
 have k4 : fN (laid (textF f) ++ r) = f.body.length := by
  unfold fN
  rw [hh]
  rw [show ((be f.kind.toNat 1 ++ be 0 1 ++ be f.gen.toNat 4 ++ be f.seq.toNat 4 ++ be f.body.length 4).drop 10).take 4 = be f.body.length 4 by simp [be]]
  exact val_be _ _ (by omega)
 have k5 : fB (laid (textF f) ++ r) = f.body := by
  unfold fB
  rw [k4, hK, Int.toNat_natCast, laid_all]
  unfold padF
  rw [List.take_append_of_le_length (by omega), List.take_of_length_le (by omega)]
  unfold textF
  rw [List.drop_append_of_le_length (by simp only [List.length_append, headF_len, List.length_take, sha_len]; omega), List.drop_of_length_le (by simp only [List.length_append, headF_len, List.length_take, sha_len]; omega), List.nil_append]
 have kF : frameOf (laid (textF f) ++ r) = f := by unfold frameOf; rw [k1, k2, k3, k5]
 have hll := laid_len (textF f)
 have ok : getOk (laid (textF f) ++ r) := by
  refine ⟨by rw [List.length_append, hll]; omega, ?_, ?_, ?_, ?_, ?_⟩
  ·have := laid_mark (textF f) r 0 (by omega)
   rw [Nat.mul_zero, List.drop_zero] at this
   exact this
  ·rw [k4, hK]; omega
  ·rw [k4, hK, List.length_append, hll]; omega
  ·rw [kF]; simp only [putF]; exact he
  ·rw [kF, k4, hK]
   simp only [putF]
   rw [if_pos he, show (64 * ((secs (textF f).length : Nat) : Int)).toNat = 64 * secs (textF f).length by omega, List.take_append_of_le_length (by omega), List.take_of_length_le (by omega)]
 unfold getF
 rw [if_pos ok, kF, k4]
theorem get_mark {b : List Int} (h : at_ b 0 ≠ 1) : getF b = (noF, 0, 2) := by unfold getF; rw [if_neg (fun hk => h hk.2.1)]
end Go.Proofs.YtkbehjdglgpgjaaGreat.Frame

namespace Go.Proofs.YtkbehjdglgpgjaaGreat.Frame
open Go.Proofs.YtkbehjdglgpgjaaGreat.Sha Go.Proofs.YtkbehjdglgpgjaaGreat.Wire

theorem errF_ok {f : FV} (he : errF f = 0) : f.body.length ≤ 60000 ∧ fits f.kind 1 = true ∧ fits f.gen 4 = true ∧ fits f.seq 4 = true := by
 unfold errF at he
 split at he
 ·omega
 ·split at he
  ·next h1 h2 => exact ⟨by omega, h2⟩
  ·omega
end Go.Proofs.YtkbehjdglgpgjaaGreat.Frame

namespace Go.Proofs.YtkbehjdglgpgjaaGreat.Journal
open Go.Proofs.YtkbehjdglgpgjaaGreat.Sha Go.Proofs.YtkbehjdglgpgjaaGreat.Disk Go.Proofs.YtkbehjdglgpgjaaGreat.Frame

structure JV where
 half : Nat
 gen : Int
 has : Bool
 pict : List Int
 recs : List (List Int)
 pos : Nat
 seq : Int
 dead : Bool
def hn (s : DS) : Nat := s.now.length / 2
def textJ (s : DS) (half m : Nat) : List Int := cat (fun i => rowOf s.now (half * hn s + m + i)) (hn s - m)
def noJ : JV := ⟨0, 0, false, [], [], 0, 1, false⟩
def headJ (s : DS) (half : Nat) (v : JV) : JV :=
 if (getF (textJ s half 0)).2.2 = 0 ∧ (getF (textJ s half 0)).1.kind = 1 ∧ (getF (textJ s half 0)).1.seq = 0 ∧ (v.has = false ∨ v.gen < (getF (textJ s half 0)).1.gen) then
  { v with half := half, gen := (getF (textJ s half 0)).1.gen, has := true, pict := (getF (textJ s half 0)).1.body, pos := (getF (textJ s half 0)).2.1.toNat }
 else v
def moreJ (s : DS) (v : JV) : Prop := (getF (textJ s v.half v.pos)).2.2 = 0 ∧ (getF (textJ s v.half v.pos)).1.kind = 2 ∧ (getF (textJ s v.half v.pos)).1.gen = v.gen ∧ (getF (textJ s v.half v.pos)).1.seq = v.seq
instance (s : DS) (v : JV) : Decidable (moreJ s v) := by unfold moreJ; infer_instance
def nextJ (s : DS) (v : JV) : JV := { v with recs := v.recs ++ [(getF (textJ s v.half v.pos)).1.body], pos := v.pos + (getF (textJ s v.half v.pos)).2.1.toNat, seq := v.seq + 1 }
def recsJ (s : DS) : Nat → JV → JV
 | 0, v => v
 | k + 1, v => if moreJ s v then recsJ s k (nextJ s v) else v
def openJ (s : DS) : JV := if s.down = true then { noJ with dead := true } else recsJ s (hn s) (headJ s 1 (headJ s 0 noJ))
def roomJ (s : DS) (v : JV) : Int := (hn s : Int) - v.pos
def piece (b : List Int) (i : Nat) : List Int := (b.drop (64 * i)).take 64
def rowsJ (b : List Int) (home : Nat) : Nat → Nat → DS → Int × DS
 | 0, _, s => (0, s)
 | k + 1, i, s => if (writeD s (home + i : Nat) (piece b i)).1 = 0 then rowsJ b home k (i + 1) (writeD s (home + i : Nat) (piece b i)).2 else writeD s (home + i : Nat) (piece b i)
def thenJ (r : Int × DS) (f : DS → Int × DS) : Int × DS := if r.1 = 0 then f r.2 else r
def layJ (s : DS) (home : Nat) (b : List Int) : Int × DS :=
 thenJ (thenJ (thenJ (rowsJ b home (b.length / 64 - 1) 1 s) fun s => if 64 < b.length then syncD s else (0, s)) fun s => writeD s (home : Nat) (piece b 0)) syncD
def deadJ (v : JV) : JV := { v with dead := true }
def recF (v : JV) (b : List Int) : FV := ⟨2, v.gen, v.seq, b⟩
def pictF (v : JV) (b : List Int) : FV := ⟨1, v.gen + 1, 0, b⟩
def appendJ (s : DS) (v : JV) (b : List Int) : Int × DS × JV :=
 if v.dead = true ∨ s.down = true then (13, s, deadJ v)
 else if (putF (recF v b)).1 ≠ 0 then ((putF (recF v b)).1, s, v)
 else if roomJ s v < ((putF (recF v b)).2.length / 64 : Nat) then (12, s, v)
 else
  let r := layJ s (v.half * hn s + v.pos) (putF (recF v b)).2
  if r.1 = 0 then (0, r.2, { v with recs := v.recs ++ [b], pos := v.pos + (putF (recF v b)).2.length / 64, seq := v.seq + 1 })
  else (r.1, r.2, deadJ v)
def compactJ (s : DS) (v : JV) (b : List Int) : Int × DS × JV :=
 if v.dead = true ∨ s.down = true then (13, s, deadJ v)
 else if 60000 < b.length then (3, s, v)
 else if (putF (pictF v b)).1 ≠ 0 ∨ hn s < (putF (pictF v b)).2.length / 64 then (12, s, v)
 else
  let r := layJ s ((1 - v.half) * hn s) (putF (pictF v b)).2
  if r.1 = 0 then (0, r.2, ⟨1 - v.half, v.gen + 1, true, b, [], (putF (pictF v b)).2.length / 64, 1, v.dead⟩)
  else (r.1, r.2, deadJ v)
end Go.Proofs.YtkbehjdglgpgjaaGreat.Journal

namespace Go.Proofs.YtkbehjdglgpgjaaGreat.Journal
open Go.Proofs.YtkbehjdglgpgjaaGreat.Sha Go.Proofs.YtkbehjdglgpgjaaGreat.Disk Go.Proofs.YtkbehjdglgpgjaaGreat.Frame

def kF (b : List Int) : Nat := (24 + b.length + 62) / 63
theorem kF_secs (f : FV) : secs (textF f).length = kF f.body := by unfold secs kF; rw [textF_len]
theorem kF_pos (b : List Int) : 1 ≤ kF b := by unfold kF; omega
theorem sectorsF_kF {b : List Int} (h : b.length ≤ 60000) : (sectorsF b.length).toNat = kF b := by
 unfold sectorsF kF
 rw [if_neg (by omega)]
 omega
def row (s : DS) (half m : Nat) : List Int := rowOf s.now (half * hn s + m)
def FrAt (s : DS) (half m : Nat) (f : FV) : Prop := errF f = 0 ∧ m + kF f.body ≤ hn s ∧ ∀ i, i < kF f.body → row s half (m + i) = piece (laid (textF f)) i
theorem cat_add (X : Nat → List Int) (a b : Nat) : cat X (a + b) = cat X a ++ cat (fun i => X (a + i)) b := by
 induction b with
 | zero => simp [cat]
 | succ b ih => rw [← Nat.add_assoc, cat, ih, cat, List.append_assoc]
theorem text_split (s : DS) (half m k : Nat) (h : m + k ≤ hn s) : textJ s half m = cat (fun i => row s half (m + i)) k ++ textJ s half (m + k) := by
 unfold textJ row
 rw [show hn s - m = k + (hn s - (m + k)) by omega, cat_add]
 congr 1
 ·exact cat_congr _ (fun i _ => by rw [Nat.add_assoc])
 ·exact cat_congr _ (fun i _ => by congr 1; omega)
theorem fr_text {s : DS} {half m : Nat} {f : FV} (h : FrAt s half m f) : textJ s half m = laid (textF f) ++ textJ s half (m + kF f.body) := by
 obtain ⟨-, h2, h3⟩ := h
 rw [text_split s half m _ h2, cat_congr (Y := fun i => ((laid (textF f)).drop (64 * i)).take 64) _ (fun i hi => h3 i hi), cat_pieces, List.take_of_length_le]
 rw [laid_len, kF_secs]; exact Nat.le_refl _
theorem fr_get {s : DS} {half m : Nat} {f : FV} (h : FrAt s half m f) : getF (textJ s half m) = (f, sectorsF f.body.length, 0) := by
 rw [fr_text h]
 exact get_put f _ h.1
def Old (g : Int) (r : List Int) : Prop := at_ r 0 ≠ 1 ∨ ((fG r : Nat) : Int) < g
theorem text_first (s : DS) (half m : Nat) (hm : m < hn s) : textJ s half m = row s half m ++ textJ s half (m + 1) := by
 rw [text_split s half m 1 (by omega)]
 simp [cat]
theorem old_get {s : DS} {half m : Nat} {g : Int} (h64 : ∀ j, j < hn s → (row s half j).length = 64) (h : m < hn s → Old g (row s half m)) : (getF (textJ s half m)).2.2 = 0 → (getF (textJ s half m)).1.gen < g := by
 intro h0
 by_cases hm : m < hn s
 ·have e := text_first s half m hm
  have hl := h64 m hm
  rcases h hm with h1 | h1
  ·rw [get_mark] at h0
   ·cases h0
   ·rw [e, at_append_left (by omega)]; exact h1
  ·have hg : fG (textJ s half m) = fG (row s half m) := by
    unfold fG h14
    rw [e, List.take_append_of_le_length (by omega)]
   unfold getF at h0 ⊢
   split
   ·show ((fG (textJ s half m) : Nat) : Int) < g
    rw [hg]; exact h1
   ·rename_i hk; rw [if_neg hk] at h0; cases h0
 ·have hz : textJ s half m = [] := by unfold textJ; rw [show hn s - m = 0 by omega]; rfl
  rw [hz] at h0
  unfold getF at h0
  rw [if_neg (fun hk => by have := hk.1; simp at this)] at h0
  cases h0
def Chain (s : DS) (half : Nat) (gen : Int) : Nat → Int → List (List Int) → Nat → Prop
 | m, _, [], e => m = e
 | m, q, b :: l, e => FrAt s half m ⟨2, gen, q, b⟩ ∧ Chain s half gen (m + kF b) (q + 1) l e
theorem Chain.le {s : DS} {half : Nat} {gen : Int} {l : List (List Int)} : ∀ {m : Nat} {q : Int} {e : Nat}, Chain s half gen m q l e → m + l.length ≤ e := by
  induction l with
  | nil => intro m q e h; simp only [Chain] at h; simp; omega
  | cons b l ih =>
    intro m q e h
    have := ih h.2
    have := kF_pos b
    simp only [List.length_cons]
    omega
theorem Chain.snoc {s : DS} {half : Nat} {gen : Int} {b : List Int} {l : List (List Int)} : ∀ {m : Nat} {q : Int} {e : Nat}, Chain s half gen m q l e → FrAt s half e ⟨2, gen, q + l.length, b⟩ → Chain s half gen m q (l ++ [b]) (e + kF b) := by
  induction l with
  | nil =>
    intro m q e h k
    simp only [Chain] at h
    subst h
    refine ⟨?_, rfl⟩
    simpa using k
  | cons c l ih =>
    intro m q e h k
    refine ⟨h.1, ih h.2 ?_⟩
    rw [show q + 1 + (l.length : Int) = q + ((c :: l).length : Nat) by simp only [List.length_cons]; omega]
    exact k
theorem FrAt.same {s s' : DS} {half m : Nat} {f : FV} (h : FrAt s half m f) (hh : hn s' = hn s) (hr : ∀ j, m ≤ j → j < m + kF f.body → row s' half j = row s half j) : FrAt s' half m f :=
 ⟨h.1, by rw [hh]; exact h.2.1, fun i hi => by rw [hr _ (by omega) (by omega)]; exact h.2.2 i hi⟩
theorem Chain.same {s s' : DS} {half : Nat} {gen : Int} {l : List (List Int)} (hh : hn s' = hn s) : ∀ {m : Nat} {q : Int} {e : Nat}, Chain s half gen m q l e → (∀ j, m ≤ j → j < e → row s' half j = row s half j) → Chain s' half gen m q l e := by
  induction l with
  | nil => intro m q e h _; exact h
  | cons b l ih =>
    intro m q e h hr
    have hle := h.2.le
    exact ⟨h.1.same hh (fun j h1 h2 => hr j h1 (by simp only at h2; omega)), ih h.2 (fun j h1 h2 => hr j (by omega) h2)⟩
theorem recs_run {s : DS} {half : Nat} {gen : Int} {l : List (List Int)} : ∀ {v : JV} {e fuel : Nat}, v.half = half → v.gen = gen → Chain s half gen v.pos v.seq l e → l.length ≤ fuel → ¬ moreJ s { v with pos := e, seq := v.seq + l.length } →
    recsJ s fuel v = { v with recs := v.recs ++ l, pos := e, seq := v.seq + l.length } := by
  induction l with
  | nil =>
    intro v e fuel h1 h2 h3 _ h5
    simp only [Chain] at h3
    subst h3
    have hv : ({ v with pos := v.pos, seq := v.seq + (([] : List (List Int)).length : Nat) } : JV) = v := by cases v; simp
    have hv2 : ({ v with recs := v.recs ++ [], pos := v.pos, seq := v.seq + (([] : List (List Int)).length : Nat) } : JV) = v := by cases v; simp
    rw [hv] at h5
    rw [hv2]
    cases fuel with
    | zero => rfl
    | succ k => unfold recsJ; rw [if_neg h5]
  | cons b l ih =>
    intro v e fuel h1 h2 h3 h4 h5
    cases fuel with
    | zero => simp at h4
    | succ k =>
      obtain ⟨f1, f2⟩ := h3
      have hg := fr_get f1
      have hb := (errF_ok f1.1).1
      have hm : moreJ s v := by
        unfold moreJ
        rw [h1, hg]
        exact ⟨rfl, rfl, h2.symm, rfl⟩
      have hn : nextJ s v = { v with recs := v.recs ++ [b], pos := v.pos + kF b, seq := v.seq + 1 } := by
        unfold nextJ
        rw [h1, hg]
        simp only [sectorsF_kF hb]
      unfold recsJ
      rw [if_pos hm, hn, ih (v := { v with recs := v.recs ++ [b], pos := v.pos + kF b, seq := v.seq + 1 }) h1 h2 f2 (by simpa using h4) ?_]
      · simp only [List.append_assoc, List.singleton_append, List.length_cons]
        congr 1
        omega
      · simp only [List.length_cons] at h5 ⊢
        rw [show v.seq + 1 + (l.length : Int) = v.seq + ((l.length + 1 : Nat) : Int) by omega]
        exact h5
structure Keeps (n : Nat) (s : DS) (v : JV) : Prop where
 wf : WF n s
 half : v.half = 0 ∨ v.half = 1
 start : (v.has = false ∧ v.half = 0 ∧ v.gen = 0 ∧ v.pict = [] ∧ Chain s 0 0 0 1 v.recs v.pos) ∨ (v.has = true ∧ 1 ≤ v.gen ∧ FrAt s v.half 0 ⟨1, v.gen, 0, v.pict⟩ ∧ Chain s v.half v.gen (kF v.pict) 1 v.recs v.pos)
 seq : v.seq = 1 + v.recs.length
 pos : v.pos ≤ hn s
 low : ∀ m, m < v.pos → Old (v.gen + 1) (row s v.half m)
 high : ∀ m, v.pos ≤ m → m < hn s → Old v.gen (row s v.half m)
 other : ∀ m, m < hn s → Old v.gen (row s (1 - v.half) m)
theorem wf_hn {n : Nat} {s : DS} (h : WF n s) : hn s = n / 2 := by unfold hn; rw [h.now]
theorem row_len {n : Nat} {s : DS} (h : WF n s) (half : Nat) (hh : half = 0 ∨ half = 1) (j : Nat) (hj : j < hn s) : (row s half j).length = 64 := by
 have := wf_hn h
 refine ((h.secs _ ?_).1).1
 rcases hh with rfl | rfl <;> omega
theorem head_no {s : DS} {half : Nat} {v : JV} (h : ¬ ((getF (textJ s half 0)).2.2 = 0 ∧ (getF (textJ s half 0)).1.kind = 1 ∧ (getF (textJ s half 0)).1.seq = 0 ∧ (v.has = false ∨ v.gen < (getF (textJ s half 0)).1.gen))) : headJ s half v = v := by
 unfold headJ; rw [if_neg h]
theorem gen_nonneg {b : List Int} (h : (getF b).2.2 = 0) : 0 ≤ (getF b).1.gen := by
 unfold getF at h ⊢
 split
 ·show (0 : Int) ≤ ((fG b : Nat) : Int); omega
 ·rename_i hk; rw [if_neg hk] at h; cases h
theorem Keeps.open_is {n : Nat} {s : DS} {v : JV} (h : Keeps n s v) (hd : s.down = false) : openJ s = { v with dead := false } := by
  have h64 := fun half hh => row_len h.wf half hh
  have hmore : ∀ q : Int, ¬ moreJ s ⟨v.half, v.gen, v.has, v.pict, [], v.pos, q, false⟩ := fun q hm => by
    have hl := old_get (s := s) (half := v.half) (m := v.pos) (g := v.gen) (h64 _ h.half) (fun hm => h.high _ (Nat.le_refl _) hm) hm.1
    have := hm.2.2.1
    simp only at this
    omega
  unfold openJ
  rw [if_neg (by rw [hd]; decide)]
  have fin : ∀ p : Nat, Chain s v.half v.gen p 1 v.recs v.pos → recsJ s (hn s) ⟨v.half, v.gen, v.has, v.pict, [], p, 1, false⟩ = { v with dead := false } := fun p hc => by
    have hle := hc.le
    have := h.pos
    rw [recs_run (v := ⟨v.half, v.gen, v.has, v.pict, [], p, 1, false⟩) rfl rfl hc (by omega) (hmore _)]
    simp only [List.nil_append, ← h.seq]
  rcases h.start with ⟨a1, a2, a3, a4, a5⟩ | ⟨a1, a2, a3, a4⟩
  · have e0 : headJ s 0 noJ = noJ := head_no (fun hc => by
      cases hr : v.recs with
      | nil =>
        rw [hr] at a5
        have hl := old_get (s := s) (half := 0) (m := 0) (g := v.gen) (h64 _ (.inl rfl)) (fun hm => by have := h.high 0 (by simp only [Chain] at a5; omega) hm; rwa [a2] at this) hc.1
        have := gen_nonneg hc.1
        omega
      | cons b l =>
        rw [hr] at a5
        have := hc.2.1
        rw [fr_get a5.1] at this
        cases this)
    have e1 : headJ s 1 noJ = noJ := head_no (fun hc => by
      have hl := old_get (s := s) (half := 1) (m := 0) (g := v.gen) (h64 _ (.inr rfl)) (fun hm => by have := h.other 0 hm; rwa [a2] at this) hc.1
      have := gen_nonneg hc.1
      omega)
    rw [e0, e1]
    have := fin 0 (by rw [a2, a3]; exact a5)
    rw [← this, a1, a2, a3, a4]
    rfl
  · have hg := fr_get a3
    have hb := (errF_ok a3.1).1
    have hk : (sectorsF ((v.pict.length : Nat) : Int)).toNat = kF v.pict := sectorsF_kF hb
    have hF : ∀ x : JV, x.recs = [] → x.seq = 1 → x.dead = false → (x.has = false ∨ x.gen < v.gen) → headJ s v.half x = ⟨v.half, v.gen, v.has, v.pict, [], kF v.pict, 1, false⟩ := fun x x1 x2 x3 x4 => by
      unfold headJ
      rw [hg, if_pos ⟨rfl, rfl, rfl, x4⟩]
      simp only [hk, x1, x2, x3, a1]
    rw [← fin _ a4]
    congr 1
    rcases h.half with hh | hh
    · have e0 := hF noJ rfl rfl rfl (.inl rfl)
      rw [hh] at e0
      rw [e0, hh]
      refine head_no (fun hc => ?_)
      have hl := old_get (s := s) (half := 1) (m := 0) (g := v.gen) (h64 _ (.inr rfl)) (fun hm => by have := h.other 0 hm; rwa [hh] at this) hc.1
      rcases hc.2.2.2 with hx | hx
      · simp only [a1] at hx; cases hx
      · simp only at hx; omega
    · have e1 := hF (headJ s 0 noJ)
      rw [hh] at e1
      rw [hh]
      refine e1 ?_ ?_ ?_ ?_
      · unfold headJ; split <;> rfl
      · unfold headJ; split <;> rfl
      · unfold headJ; split <;> rfl
      · by_cases hc : (getF (textJ s 0 0)).2.2 = 0 ∧ (getF (textJ s 0 0)).1.kind = 1 ∧ (getF (textJ s 0 0)).1.seq = 0 ∧ (noJ.has = false ∨ noJ.gen < (getF (textJ s 0 0)).1.gen)
        · have hl := old_get (s := s) (half := 0) (m := 0) (g := v.gen) (h64 _ (.inl rfl)) (fun hm => by have := h.other 0 hm; rwa [hh] at this) hc.1
          unfold headJ
          rw [if_pos hc]
          exact .inr hl
        · rw [head_no hc]; exact .inl rfl
end Go.Proofs.YtkbehjdglgpgjaaGreat.Journal

namespace Go.Proofs.YtkbehjdglgpgjaaGreat.Journal
open Go.Proofs.YtkbehjdglgpgjaaGreat.Sha Go.Proofs.YtkbehjdglgpgjaaGreat.Disk Go.Proofs.YtkbehjdglgpgjaaGreat.Frame

theorem burn_two (s : DS) : ((burnD s).1 = true ∨ (burnD s).1 = false ∧ (burnD s).2.down = s.down) := by
 unfold burnD
 split
 ·exact .inl rfl
 ·split <;> exact .inr ⟨rfl, rfl⟩
structure Torn (n : Nat) (s0 : DS) (b : List Int) (home k : Nat) (s : DS) : Prop where
 wf : WF n s
 out : ∀ j, j < n → (j ≤ home ∨ home + k ≤ j) → rowOf s.now j = rowOf s0.now j ∧ rowOf s.last j = rowOf s0.now j
 mid : ∀ j, j < n → (rowOf s.now j = rowOf s0.now j ∨ rowOf s.now j = piece b (j - home)) ∧ (rowOf s.last j = rowOf s0.now j ∨ rowOf s.last j = piece b (j - home))
theorem Torn.same {n : Nat} {s0 s t : DS} {b : List Int} {home k : Nat} (h : Torn n s0 b home k s) (w : WF n t) (e1 : t.now = s.now) (e2 : t.last = s.last) : Torn n s0 b home k t :=
 ⟨w, fun j hj ho => by rw [e1, e2]; exact h.out j hj ho, fun j hj => by rw [e1, e2]; exact h.mid j hj⟩
theorem Torn.put {n : Nat} {s0 s t : DS} {b : List Int} {home k i : Nat} (h : Torn n s0 b home k s) (w : WF n t) (hi : 1 ≤ i ∧ i < k) (e1 : t.now = s.now.set (home + i) (piece b i)) (e2 : t.last = s.last) : Torn n s0 b home k t := by
 refine ⟨w, fun j hj ho => ?_, fun j hj => ?_⟩
 ·rw [e1, e2, rowOf_set _ _ _ _ (by rw [h.wf.now]; exact hj), if_neg (by omega)]
  exact h.out j hj ho
 ·rw [e1, e2, rowOf_set _ _ _ _ (by rw [h.wf.now]; exact hj)]
  refine ⟨?_, (h.mid j hj).2⟩
  split
  ·rename_i e; subst e; right; congr 1; omega
  ·exact (h.mid j hj).1
theorem piece_sec {b : List Int} {k i : Nat} (hb : Bytes b) (hl : b.length = 64 * k) (hi : i < k) : Sec (piece b i) :=
 ⟨by unfold piece; rw [List.length_take, List.length_drop]; omega, (hb.drop _).take _⟩
end Go.Proofs.YtkbehjdglgpgjaaGreat.Journal

namespace Go.Proofs.YtkbehjdglgpgjaaGreat.Journal
open Go.Proofs.YtkbehjdglgpgjaaGreat.Sha Go.Proofs.YtkbehjdglgpgjaaGreat.Disk Go.Proofs.YtkbehjdglgpgjaaGreat.Frame

theorem piece_mark {f : FV} {i : Nat} (h0 : i ≠ 0) (hi : i < kF f.body) : at_ (piece (laid (textF f)) i) 0 ≠ 1 := by
 have h := laid_mark (textF f) [] i (by rw [kF_secs]; exact hi)
 rw [List.append_nil] at h
 unfold piece
 rw [at_take (by omega), h]
 unfold mk
 rw [if_neg h0]
 decide
theorem fr_gen {s : DS} {half m : Nat} {f : FV} (h : FrAt s half m f) (h64 : ∀ j, j < hn s → (row s half j).length = 64) : ((fG (row s half m) : Nat) : Int) = f.gen := by
 have hg := fr_get h
 have hm : m < hn s := by have := h.2.1; have := kF_pos f.body; omega
 have e : fG (textJ s half m) = fG (row s half m) := by
  unfold fG h14
  rw [text_first s half m hm, List.take_append_of_le_length (by have := h64 m hm; omega)]
 rw [← e]
 unfold getF at hg
 split at hg
 ·have := congrArg (fun x => x.1.gen) hg
  exact this
 ·have := congrArg (fun x => x.2.2) hg
  simp at this
theorem fr_low {s : DS} {half m : Nat} {f : FV} (h : FrAt s half m f) (h64 : ∀ j, j < hn s → (row s half j).length = 64) : ∀ i, i < kF f.body → Old (f.gen + 1) (row s half (m + i)) := by
 intro i hi
 by_cases h0 : i = 0
 ·subst h0
  right
  rw [Nat.add_zero, fr_gen h h64]
  omega
 ·left
  rw [h.2.2 i hi]
  exact piece_mark h0 hi
theorem Old.mono {g g' : Int} {r : List Int} (h : Old g r) (hg : g ≤ g') : Old g' r := h.imp id (fun h => by omega)
theorem hn_same {n : Nat} {s c : DS} (h : WF n s) (w : WF n c) : hn c = hn s := by rw [wf_hn h, wf_hn w]
theorem Keeps.same {n : Nat} {s c : DS} {v : JV} (h : Keeps n s v) (w : WF n c) (h1 : ∀ m, m < v.pos → row c v.half m = row s v.half m) (h2 : ∀ m, v.pos ≤ m → m < hn s → row c v.half m = row s v.half m ∨ at_ (row c v.half m) 0 ≠ 1) (h3 : ∀ m, m < hn s → row c (1 - v.half) m = row s (1 - v.half) m) : Keeps n c v := by
 have hh := hn_same h.wf w
 refine ⟨w, h.half, ?_, h.seq, by rw [hh]; exact h.pos, fun m hm => by rw [h1 m hm]; exact h.low m hm, fun m a b => ?_, fun m hm => by rw [h3 m (by rw [← hh]; exact hm)]; exact h.other m (by rw [← hh]; exact hm)⟩
 ·rcases h.start with ⟨a1, a2, a3, a4, a5⟩ | ⟨a1, a2, a3, a4⟩
  ·exact .inl ⟨a1, a2, a3, a4, a5.same hh (fun j _ hj => by have := h1 j hj; rwa [a2] at this)⟩
  ·have hle := a4.le
   exact .inr ⟨a1, a2, a3.same hh (fun j _ hj => h1 j (by simp only at hj; omega)), a4.same hh (fun j _ hj => h1 j hj)⟩
 ·rw [hh] at b
  rcases h2 m a b with e | e
  ·rw [e]; exact h.high m a b
  ·exact .inl e
theorem Keeps.append {n : Nat} {s c : DS} {v : JV} {b : List Int} (h : Keeps n s v) (w : WF n c) (hf : errF (recF v b) = 0) (hr : v.pos + kF b ≤ hn s) (h1 : ∀ i, i < kF b → row c v.half (v.pos + i) = piece (laid (textF (recF v b))) i)
  (h2 : ∀ m, m < hn s → (m < v.pos ∨ v.pos + kF b ≤ m) → row c v.half m = row s v.half m) (h3 : ∀ m, m < hn s → row c (1 - v.half) m = row s (1 - v.half) m) (dead : Bool) :
  Keeps n c { v with recs := v.recs ++ [b], pos := v.pos + kF b, seq := v.seq + 1, dead := dead } := by
 have hh := hn_same h.wf w
 have F : FrAt c v.half v.pos (recF v b) := ⟨hf, by rw [hh]; exact hr, h1⟩
 have h64 := row_len w v.half h.half
 refine ⟨w, h.half, ?_, ?_, by rw [hh]; exact hr, fun m hm => ?_, fun m a c' => ?_, fun m hm => by rw [h3 m (by rw [← hh]; exact hm)]; exact h.other m (by rw [← hh]; exact hm)⟩
 ·have hq := h.seq
  rcases h.start with ⟨a1, a2, a3, a4, a5⟩ | ⟨a1, a2, a3, a4⟩
  ·refine .inl ⟨a1, a2, a3, a4, (a5.same hh (fun j _ hj => by have := h2 j (by have := h.pos; omega) (.inl hj); rwa [a2] at this)).snoc ?_⟩
   unfold recF at F
   rw [a2, a3, hq] at F
   exact F
  ·have hle := a4.le
   refine .inr ⟨a1, a2, a3.same hh (fun j _ hj => h2 j (by simp only at hj; have := h.pos; omega) (.inl (by simp only at hj; omega))), (a4.same hh (fun j _ hj => h2 j (by have := h.pos; omega) (.inl hj))).snoc ?_⟩
   unfold recF at F
   rw [hq] at F
   exact F
 ·have := h.seq
  simp only [List.length_append, List.length_cons, List.length_nil]
  omega
 ·by_cases hlt : m < v.pos
  ·rw [h2 m (by have := h.pos; omega) (.inl hlt)]; exact h.low m hlt
  ·have := fr_low F h64 (m - v.pos) (by simp only at hm; show m - v.pos < kF b; omega)
   rw [show v.pos + (m - v.pos) = m by omega] at this
   exact this
 ·rw [hh] at c'
  simp only at a
  rw [h2 m c' (.inr a)]
  exact h.high m (by omega) c'
theorem Keeps.compact {n : Nat} {s c : DS} {v : JV} {b : List Int} (h : Keeps n s v) (w : WF n c) (hf : errF (pictF v b) = 0) (hr : kF b ≤ hn s) (h1 : ∀ i, i < kF b → row c (1 - v.half) i = piece (laid (textF (pictF v b))) i)
  (h2 : ∀ m, m < hn s → kF b ≤ m → row c (1 - v.half) m = row s (1 - v.half) m) (h3 : ∀ m, m < hn s → row c v.half m = row s v.half m) (dead : Bool) :
  Keeps n c ⟨1 - v.half, v.gen + 1, true, b, [], kF b, 1, dead⟩ := by
 have hh := hn_same h.wf w
 have hhalf : 1 - v.half = 0 ∨ 1 - v.half = 1 := by rcases h.half with e | e <;> omega
 have F : FrAt c (1 - v.half) 0 (pictF v b) := ⟨hf, by rw [hh]; show 0 + kF b ≤ hn s; omega, fun i hi => by rw [Nat.zero_add]; exact h1 i hi⟩
 have h64 := row_len w (1 - v.half) hhalf
 have hg : 0 ≤ v.gen := by
  rcases h.start with ⟨-, -, a3, -⟩ | ⟨-, a2, -⟩ <;> omega
 have hback : 1 - (1 - v.half) = v.half := by rcases h.half with e | e <;> omega
 refine ⟨w, hhalf, .inr ⟨rfl, by simp only; omega, F, rfl⟩, rfl, by rw [hh]; exact hr, fun m hm => ?_, fun m a c' => ?_, fun m hm => ?_⟩
 ·have := fr_low F h64 m hm
  rw [Nat.zero_add] at this
  exact this
 ·rw [hh] at c'
  rw [h2 m c' a]
  exact (h.other m c').mono (by simp only; omega)
 ·rw [hh] at hm
  simp only [hback]
  rw [h3 m hm]
  by_cases hlt : m < v.pos
  ·exact h.low m hlt
  ·exact (h.high m (by omega) hm).mono (by omega)
theorem keeps_new {n : Nat} {s : DS} (w : WF n s) (h : ∀ j, j < n → rowOf s.now j = zeros64) : Keeps n s noJ := by
 have hz : ∀ half m, half = 0 ∨ half = 1 → m < hn s → at_ (row s half m) 0 ≠ 1 := fun half m hh hm => by
  have := wf_hn w
  unfold row
  rw [h _ (by rcases hh with rfl | rfl <;> omega)]
  decide
 exact ⟨w, .inl rfl, .inl ⟨rfl, rfl, rfl, rfl, rfl⟩, rfl, Nat.zero_le _, fun m hm => absurd hm (Nat.not_lt_zero _), fun m _ hm => .inl (hz 0 m (.inl rfl) hm), fun m hm => .inl (hz 1 m (.inr rfl) hm)⟩
end Go.Proofs.YtkbehjdglgpgjaaGreat.Journal

namespace Go.Proofs.YtkbehjdglgpgjaaGreat.Journal
open Go.Proofs.YtkbehjdglgpgjaaGreat.Sha Go.Proofs.YtkbehjdglgpgjaaGreat.Disk Go.Proofs.YtkbehjdglgpgjaaGreat.Frame

structure Calm (s : DS) : Prop where
 pend : s.pend = []
 down : s.down = false
 fuse : s.fuse = -1
theorem put_ok {f : FV} (h : errF f = 0) : putF f = (0, laid (textF f)) := by unfold putF; rw [h, if_pos rfl]
theorem put_len (f : FV) : (laid (textF f)).length = 64 * kF f.body := by rw [laid_len, kF_secs]
theorem put_bytes {f : FV} (h : Bytes f.body) : Bytes (laid (textF f)) := laid_bytes _ (textF_bytes f h)
theorem room_lt {s : DS} {v : JV} {k : Nat} : roomJ s v < (k : Int) ↔ hn s < v.pos + k := by unfold roomJ; omega
end Go.Proofs.YtkbehjdglgpgjaaGreat.Journal

namespace Go.Proofs.YtkbehjdglgpgjaaGreat.Journal
open Go.Proofs.YtkbehjdglgpgjaaGreat.Sha Go.Proofs.YtkbehjdglgpgjaaGreat.Disk Go.Proofs.YtkbehjdglgpgjaaGreat.Frame

def textM (s : DS) (half m k : Nat) : List Int := cat (fun i => rowOf s.now (half * hn s + m + i)) k
theorem textM_all (s : DS) (half m : Nat) : textM s half m (hn s - m) = textJ s half m := rfl
theorem textM_len {n : Nat} {s : DS} (h : WF n s) {half m k : Nat} (hh : half ≤ 1) (hk : m + k ≤ hn s) : (textM s half m k).length = 64 * k := by
 have hhn := wf_hn h
 refine cat_len (c := 64) k (fun j hj => ?_)
 have : half * hn s ≤ hn s := by rcases (show half = 0 ∨ half = 1 by omega) with e | e <;> subst e <;> omega
 exact ((h.secs _ (by omega)).1).1
theorem readD_at {n : Nat} {s : DS} (h : WF n s) (hd : s.down = false) {j : Nat} (hj : j < n) : readD s (j : Nat) = (0, rowOf s.now j) := by
 unfold readD
 rw [if_neg (by simp [hd]), if_neg (by unfold noSector; rw [h.now]; omega), Int.toNat_natCast]
theorem getF_bounds {b : List Int} (hb : Bytes b) (h : (getF b).2.2 = 0) : 0 ≤ (getF b).1.gen ∧ (getF b).1.gen ≤ 4294967295 ∧ (getF b).1.seq ≤ 4294967295 ∧ 1 ≤ (getF b).2.1.toNat ∧ 64 * (getF b).2.1.toNat ≤ b.length ∧ (getF b).2.1 = ((getF b).2.1.toNat : Nat) := by
 unfold getF at h ⊢
 by_cases hk : getOk b
 ·rw [if_pos hk] at h ⊢
  have h2 : fG b < 4294967296 := val4 _ ((((hb.take _).drop _).drop _).take _) (by simp; omega)
  have h3 : fS b < 4294967296 := val4 _ ((((hb.take _).drop _).drop _).take _) (by simp; omega)
  obtain ⟨-, -, k3, k4, -⟩ := hk
  have k0 : 0 ≤ sectorsF (fN b) := by unfold sectorsF; split <;> omega
  simp only [frameOf]
  omega
 ·rw [if_neg hk] at h
  simp at h
theorem text_bytes {n : Nat} {s : DS} (hwf : WF n s) {half m : Nat} (hh : half ≤ 1) : Bytes (textJ s half m) := by
  have hhn := wf_hn hwf
  rw [← textM_all]
  unfold textM
  have : ∀ k, k ≤ hn s - m → Bytes (cat (fun i => rowOf s.now (half * hn s + m + i)) k) := fun k => by
    induction k with
    | zero => intro _ z hz; simp [cat] at hz
    | succ k ih =>
      intro hk
      refine (ih (by omega)).append ?_
      have : half * hn s ≤ hn s := by rcases (show half = 0 ∨ half = 1 by omega) with e | e <;> subst e <;> omega
      exact ((hwf.secs _ (by omega)).1).2
  exact this _ (Nat.le_refl _)
theorem text_len {n : Nat} {s : DS} (hwf : WF n s) {half m : Nat} (hh : half ≤ 1) : (textJ s half m).length = 64 * (hn s - m) := by
 rcases Nat.le_total m (hn s) with hle | hle
 ·rw [← textM_all]; exact textM_len hwf hh (by omega)
 ·rw [← textM_all, show hn s - m = 0 by omega]; rfl
end Go.Proofs.YtkbehjdglgpgjaaGreat.Journal

namespace Go.Proofs.YtkbehjdglgpgjaaGreat.Journal
open Go.Proofs.YtkbehjdglgpgjaaGreat.Sha Go.Proofs.YtkbehjdglgpgjaaGreat.Disk Go.Proofs.YtkbehjdglgpgjaaGreat.Frame

def Fine (n : Nat) (r : Int × DS) : Prop := WF n r.2 ∧ (r.1 = 0 ∧ r.2.down = false ∨ r.1 ≠ 0 ∧ r.2.down = true)
theorem burn_down (s : DS) (h : (burnD s).1 = true) : (burnD s).2.down = true := by
 unfold burnD at h ⊢
 split at h
 ·rename_i hf; rw [if_pos hf]
 ·split at h <;> simp at h
theorem write_fine {n : Nat} {s : DS} (h : WF n s) (hd : s.down = false) {j : Nat} (hj : j < n) {x : List Int} (hx : Sec x) : Fine n (writeD s (j : Nat) x) := by
 refine ⟨wf_write h (j : Int) x hx.2, ?_⟩
 have hns : ¬ noSector s (j : Int) := by unfold noSector; have := h.now; omega
 have hl : ¬ x.length ≠ 64 := by have := hx.1; omega
 unfold writeD
 rw [if_neg (by rw [hd]; decide), if_neg hns, if_neg hl]
 rcases burn_two s with hb | ⟨hb, hb2⟩
 ·rw [if_pos hb]
  exact .inr ⟨by show (13 : Int) ≠ 0; decide, burn_down s hb⟩
 ·rw [if_neg (by rw [hb]; decide)]
  exact .inl ⟨rfl, by show (burnD s).2.down = false; rw [hb2]; exact hd⟩
theorem sync_fine {n : Nat} {s : DS} (h : WF n s) (hd : s.down = false) : Fine n (syncD s) := by
 refine ⟨wf_sync h, ?_⟩
 unfold syncD
 rw [if_neg (by rw [hd]; decide)]
 rcases burn_two s with hb | ⟨hb, hb2⟩
 ·rw [if_pos hb]
  exact .inr ⟨by show (13 : Int) ≠ 0; decide, burn_down s hb⟩
 ·rw [if_neg (by rw [hb]; decide)]
  exact .inl ⟨rfl, by show (burnD s).2.down = false; rw [hb2]; exact hd⟩
theorem then_fine {n : Nat} {r : Int × DS} {f : DS → Int × DS} (h : Fine n r) (hf : ∀ s, WF n s → s.down = false → Fine n (f s)) : Fine n (thenJ r f) := by
 unfold thenJ
 rcases h.2 with ⟨h0, h1⟩ | ⟨h0, h1⟩
 ·rw [if_pos h0]; exact hf _ h.1 h1
 ·rw [if_neg h0]; exact h
theorem rows_fine {n : Nat} {b : List Int} {home k : Nat} (hb : Bytes b) (hl : b.length = 64 * k) (hh : home + k ≤ n) : ∀ (m i : Nat) (s : DS), i + m ≤ k → WF n s → s.down = false → Fine n (rowsJ b home m i s)
  | 0, _, s, _, h, hd => ⟨h, .inl ⟨rfl, hd⟩⟩
  | m + 1, i, s, hi, h, hd => by
    have h1 := write_fine h hd (j := home + i) (by omega) (piece_sec (i := i) hb hl (by omega))
    unfold rowsJ
    rcases h1.2 with ⟨e, e2⟩ | ⟨e, e2⟩
    · rw [if_pos e]; exact rows_fine hb hl hh m (i + 1) _ (by omega) h1.1 e2
    · rw [if_neg e]; exact h1
theorem lay_fine {n : Nat} {s : DS} {b : List Int} {home k : Nat} (h : WF n s) (hd : s.down = false) (hb : Bytes b) (hl : b.length = 64 * k) (hk : 1 ≤ k) (hh : home + k ≤ n) : Fine n (layJ s home b) := by
 unfold layJ
 refine then_fine (then_fine (then_fine (rows_fine hb hl hh (b.length / 64 - 1) 1 s (by omega) h hd) (fun t ht hd => ?_)) (fun t ht hd => write_fine ht hd (j := home) (by omega) (piece_sec (i := 0) hb hl (by omega)))) (fun t ht hd => sync_fine ht hd)
 split
 ·exact sync_fine ht hd
 ·exact ⟨ht, .inl ⟨rfl, hd⟩⟩
def Live (s : DS) (v : JV) : Prop := s.down = false → v.dead = false
theorem halves {n : Nat} {s : DS} (h : WF n s) {q : Nat} (hq : q = 0 ∨ q = 1) : q * hn s + hn s ≤ n ∧ (1 - q) * hn s + hn s ≤ n := by
 have := wf_hn h
 rcases hq with e | e <;> rw [e] <;> omega
theorem append_live {n : Nat} {s : DS} {v : JV} {b : List Int} (h : WF n s) (hv : v.half = 0 ∨ v.half = 1) (hb : Bytes b) (l : Live s v) : Live (appendJ s v b).2.1 (appendJ s v b).2.2 := by
 unfold appendJ
 by_cases hd : v.dead = true ∨ s.down = true
 ·rw [if_pos hd]
  intro hs
  rcases hd with e | e
  ·exact absurd (l hs) (by rw [e]; decide)
  ·exact absurd hs (by rw [e]; decide)
 ·rw [if_neg hd]
  have hdn : s.down = false := by simpa using fun e => hd (.inr e)
  have hdv : v.dead = false := by simpa using fun e => hd (.inl e)
  by_cases hf : (putF (recF v b)).1 ≠ 0
  ·rw [if_pos hf]; exact l
  ·rw [if_neg hf]
   have h0 : errF (recF v b) = 0 := by simpa [putF] using hf
   by_cases hr : roomJ s v < ((putF (recF v b)).2.length / 64 : Nat)
   ·rw [if_pos hr]; exact l
   ·rw [if_neg hr]
    rw [put_ok h0] at hr ⊢
    have hl := put_len (recF v b)
    have hbb := put_bytes (f := recF v b) hb
    simp only at hr ⊢
    rw [hl] at hr ⊢
    have hk : 64 * kF (recF v b).body / 64 = kF (recF v b).body := by omega
    rw [hk] at hr ⊢
    rw [room_lt] at hr
    have hp := kF_pos (recF v b).body
    have hh := halves h hv
    have fine := lay_fine (home := v.half * hn s + v.pos) h hdn hbb hl hp (by omega)
    split
    ·intro _; exact hdv
    ·rename_i he
     rcases fine.2 with ⟨e, _⟩ | ⟨_, e⟩
     ·exact absurd e he
     ·intro hs
      exact absurd hs (by show ¬ (layJ _ _ _).2.down = false; rw [e]; decide)
theorem compact_live {n : Nat} {s : DS} {v : JV} {b : List Int} (h : WF n s) (hv : v.half = 0 ∨ v.half = 1) (hb : Bytes b) (l : Live s v) : Live (compactJ s v b).2.1 (compactJ s v b).2.2 := by
 unfold compactJ
 by_cases hd : v.dead = true ∨ s.down = true
 ·rw [if_pos hd]
  intro hs
  rcases hd with e | e
  ·exact absurd (l hs) (by rw [e]; decide)
  ·exact absurd hs (by rw [e]; decide)
 ·rw [if_neg hd]
  have hdn : s.down = false := by simpa using fun e => hd (.inr e)
  have hdv : v.dead = false := by simpa using fun e => hd (.inl e)
  by_cases h6 : 60000 < b.length
  ·rw [if_pos h6]; exact l
  ·rw [if_neg h6]
   by_cases hf : (putF (pictF v b)).1 ≠ 0 ∨ hn s < (putF (pictF v b)).2.length / 64
   ·rw [if_pos hf]; exact l
   ·rw [if_neg hf]
    have h0 : errF (pictF v b) = 0 := by simpa [putF] using fun e => hf (.inl e)
    have hr : ¬ hn s < (putF (pictF v b)).2.length / 64 := fun e => hf (.inr e)
    rw [put_ok h0] at hr ⊢
    have hl := put_len (pictF v b)
    have hbb := put_bytes (f := pictF v b) hb
    simp only at hr ⊢
    rw [hl] at hr ⊢
    have hk : 64 * kF (pictF v b).body / 64 = kF (pictF v b).body := by omega
    rw [hk] at hr ⊢
    have hp := kF_pos (pictF v b).body
    have hh := halves h hv
    have fine := lay_fine (home := (1 - v.half) * hn s) h hdn hbb hl hp (by omega)
    split
    ·intro _; exact hdv
    ·rename_i he
     rcases fine.2 with ⟨e, _⟩ | ⟨_, e⟩
     ·exact absurd e he
     ·intro hs
      exact absurd hs (by show ¬ (layJ _ _ _).2.down = false; rw [e]; decide)
theorem head_dead (s : DS) (half : Nat) (v : JV) : (headJ s half v).dead = v.dead := by unfold headJ; split <;> rfl
theorem recs_dead (s : DS) : ∀ (k : Nat) (v : JV), (recsJ s k v).dead = v.dead
  | 0, _ => rfl
  | k + 1, v => by
    unfold recsJ
    split
    · rw [recs_dead s k]; rfl
    · rfl
theorem open_live (s : DS) : Live s (openJ s) := fun h => by
 unfold openJ
 rw [if_neg (by rw [h]; decide), recs_dead, head_dead, head_dead]
 rfl
theorem write_live {s : DS} {v : JV} (i : Int) (x : List Int) (l : Live s v) : Live (writeD s i x).2 v := by
 unfold writeD
 split
 ·exact l
 ·split
  ·exact l
  ·split
   ·exact l
   ·split
    ·rename_i hb
     intro hs
     exact absurd hs (by show ¬ (burnD s).2.down = false; rw [burn_down s hb]; decide)
    ·rename_i hb
     rcases burn_two s with e | ⟨_, e⟩
     ·exact absurd e hb
     ·intro hs
      exact l (by rw [← e]; exact hs)
theorem fuse_live {s : DS} {v : JV} (f : Int) (l : Live s v) : Live (fuseD s f) v := l
end Go.Proofs.YtkbehjdglgpgjaaGreat.Journal

namespace Go.Proofs.YtkbehjdglgpgjaaGreat.Journal
open Go.Proofs.YtkbehjdglgpgjaaGreat.Sha Go.Proofs.YtkbehjdglgpgjaaGreat.Disk Go.Proofs.YtkbehjdglgpgjaaGreat.Frame

def stepW (b : List Int) (home : Nat) (p : Nat × Int × DS) (x : Nat) : Nat × Int × DS := if p.2.1 = 0 then (p.1 + 1, writeD p.2.2 (home + p.1 : Nat) (piece b x)) else p
theorem stepW_stop (b : List Int) (home : Nat) (l : List Nat) (p : Nat × Int × DS) (h : p.2.1 ≠ 0) : l.foldl (stepW b home) p = p := by
 induction l with
 | nil => rfl
 | cons x l ih => rw [List.foldl_cons, show stepW b home p x = p by unfold stepW; rw [if_neg h]]; exact ih
theorem stepW_rows (b : List Int) (home : Nat) : ∀ (k i : Nat) (s : DS), ((List.range' i k).foldl (stepW b home) (i, 0, s)).2 = rowsJ b home k i s
  | 0, i, s => rfl
  | k + 1, i, s => by
    rw [List.range'_succ, List.foldl_cons, show stepW b home (i, 0, s) i = (i + 1, writeD s (home + i : Nat) (piece b i)) by unfold stepW; rw [if_pos rfl]]
    unfold rowsJ
    by_cases h : (writeD s (home + i : Nat) (piece b i)).1 = 0
    · rw [if_pos h, ← stepW_rows b home k (i + 1)]
      congr 2
      exact Prod.ext rfl (Prod.ext h rfl)
    · rw [if_neg h, stepW_stop _ _ _ _ h]
theorem stepW_len (b : List Int) (home : Nat) (l : List Nat) : ∀ p, (l.foldl (stepW b home) p).1 ≤ p.1 + l.length := by
  induction l with
  | nil => intro p; simp
  | cons x l ih =>
    intro p
    rw [List.foldl_cons]
    refine Nat.le_trans (ih _) ?_
    unfold stepW
    split <;> simp <;> omega
theorem stepW_all (b : List Int) (home k : Nat) (s : DS) : ((List.range k).foldl (stepW b home) (0, 0, s)).2 = rowsJ b home k 0 s := by
 rw [List.range_eq_range']; exact stepW_rows b home k 0 s
theorem stepW_part (b : List Int) (home k m : Nat) (s : DS) (hm : m ≤ k) (h : ((List.range m).foldl (stepW b home) (0, 0, s)).2.1 ≠ 0) : ((List.range m).foldl (stepW b home) (0, 0, s)).2 = rowsJ b home k 0 s := by
 rw [← stepW_all b home k s]
 have e : List.range k = List.range m ++ List.range' m (k - m) := by
  rw [List.range_eq_range', List.range_eq_range', show k = m + (k - m) by omega, ← List.range'_append]; simp
 rw [e, List.foldl_append, stepW_stop _ _ _ _ h]
theorem rows_drop (b : List Int) (home : Nat) : ∀ (k i : Nat) (s : DS), rowsJ (b.drop 64) (home + 1) k i s = rowsJ b home k (i + 1) s
  | 0, _, _ => rfl
  | k + 1, i, s => by
    have e1 : piece (b.drop 64) i = piece b (i + 1) := by unfold piece; rw [List.drop_drop, show 64 + 64 * i = 64 * (i + 1) by omega]
    have e2 : home + 1 + i = home + (i + 1) := by omega
    unfold rowsJ
    rw [e1, e2]
    split
    · exact rows_drop b home k (i + 1) _
    · rfl
theorem rows_one (b : List Int) (home : Nat) (s : DS) : rowsJ (b.take 64) home 1 0 s = writeD s (home : Nat) (piece b 0) := by
 have e1 : piece (b.take 64) 0 = piece b 0 := by unfold piece; simp [List.take_take]
 unfold rowsJ rowsJ
 rw [e1, Nat.add_zero]
 split
 ·rename_i h; exact (Prod.ext h.symm rfl)
 ·rfl
def writeJ (b : List Int) (home k : Nat) (s : DS) : Int × DS := thenJ (rowsJ b home k 0 s) syncD
theorem write_one (b : List Int) (home : Nat) (s : DS) : writeJ (b.take 64) home 1 s = thenJ (writeD s (home : Nat) (piece b 0)) syncD := by unfold writeJ; rw [rows_one]
theorem lay_short {b : List Int} (home : Nat) (s : DS) (h : b.length = 64) : layJ s home b = writeJ (b.take 64) home 1 s := by
 rw [write_one]
 unfold layJ
 rw [show b.length / 64 - 1 = 0 by omega]
 unfold rowsJ
 simp only [if_neg (show ¬ 64 < b.length by omega)]
 rfl
theorem lay_long {b : List Int} (home k : Nat) (s : DS) (h : b.length = 64 * (k + 1)) (hk : 0 < k) : layJ s home b = thenJ (writeJ (b.drop 64) (home + 1) k s) (writeJ (b.take 64) home 1) := by
 unfold layJ
 rw [show b.length / 64 - 1 = k by omega]
 unfold writeJ
 rw [rows_drop]
 simp only [if_pos (show 64 < b.length by omega)]
 generalize rowsJ b home k (0 + 1) s = r
 unfold thenJ
 by_cases h1 : r.1 = 0
 ·simp only [if_pos h1]
  by_cases h2 : (syncD r.2).1 = 0
  ·simp only [if_pos h2]
   rw [rows_one]
  ·simp only [if_neg h2]
 ·simp only [if_neg h1]
end Go.Proofs.YtkbehjdglgpgjaaGreat.Journal

namespace Go.Proofs.YtkbehjdglgpgjaaGreat.Frame
open Go.Proofs.YtkbehjdglgpgjaaGreat.Sha Go.Proofs.YtkbehjdglgpgjaaGreat.Wire

def head0 (b : List Int) : List Int := (allF b 1).take 16
theorem head0_is (b : List Int) : head0 b = (b.drop 1).take 16 := by
 unfold head0 allF
 simp only [cat, Nat.mul_zero, Nat.zero_add, List.nil_append]
 rw [List.take_take]; rfl
theorem head0_drop (b : List Int) : (head0 b).drop 2 = h14 b := by
 rw [head0_is, List.take_drop]
 unfold h14
 rw [List.drop_drop]
theorem head0_len {b : List Int} (h : 64 ≤ b.length) : (head0 b).length = 16 := by rw [head0_is, List.length_take, List.length_drop]; omega
theorem head0_bytes {b : List Int} (hb : Bytes b) : Bytes (head0 b) := by rw [head0_is]; exact (hb.drop _).take _
def hK (H : List Int) : Nat := val ((H.drop 2).take 1)
def hZ (H : List Int) : Nat := val ((H.drop 3).take 1)
def hG (H : List Int) : Nat := val ((H.drop 4).take 4)
def hS (H : List Int) : Nat := val ((H.drop 8).take 4)
def hN (H : List Int) : Nat := val ((H.drop 12).take 4)
def headOk (H : List Int) : Prop := val (H.take 2) = 25446 ∧ hZ H = 0 ∧ hN H ≤ 60000
theorem fK_head (b : List Int) : fK b = hK (head0 b) := by unfold fK hK; rw [head0_drop]
theorem fG_head (b : List Int) : fG b = hG (head0 b) := by unfold fG hG; rw [← head0_drop, List.drop_drop]
theorem fS_head (b : List Int) : fS b = hS (head0 b) := by unfold fS hS; rw [← head0_drop, List.drop_drop]
theorem fN_head (b : List Int) : fN b = hN (head0 b) := by unfold fN hN; rw [← head0_drop, List.drop_drop]
theorem head_is {H : List Int} (hl : H.length = 16) (hb : Bytes H) (h2 : val (H.take 2) = 25446) (h0 : hZ H = 0) :
  H = [99, 102] ++ be (hK H) 1 ++ be 0 1 ++ be (hG H) 4 ++ be (hS H) 4 ++ be (hN H) 4 := by
 have e2 : be (val (H.take 2)) (H.take 2).length = H.take 2 := be_val _ (hb.take _)
 have e3 : be (hK H) ((H.drop 2).take 1).length = (H.drop 2).take 1 := be_val _ ((hb.drop _).take _)
 have e4 : be (hZ H) ((H.drop 3).take 1).length = (H.drop 3).take 1 := be_val _ ((hb.drop _).take _)
 have e5 : be (hG H) ((H.drop 4).take 4).length = (H.drop 4).take 4 := be_val _ ((hb.drop _).take _)
 have e6 : be (hS H) ((H.drop 8).take 4).length = (H.drop 8).take 4 := be_val _ ((hb.drop _).take _)
 have e7 : be (hN H) ((H.drop 12).take 4).length = (H.drop 12).take 4 := be_val _ ((hb.drop _).take _)
 simp only [List.length_take, List.length_drop, hl] at e2 e3 e4 e5 e6 e7
 rw [h2] at e2
 rw [h0] at e4
 have d2 : be 25446 2 = [99, 102] := by decide +kernel
 rw [show min 2 16 = 2 from rfl, d2] at e2
 rw [show min 1 (16 - 2) = 1 from rfl] at e3
 rw [show min 1 (16 - 3) = 1 from rfl] at e4
 rw [show min 4 (16 - 4) = 4 from rfl] at e5
 rw [show min 4 (16 - 8) = 4 from rfl] at e6
 rw [show min 4 (16 - 12) = 4 from rfl] at e7
 rw [e2, e3, e4, e5, e6, e7]
 match H, hl with
 | [a0, a1, a2, a3, a4, a5, a6, a7, a8, a9, b0, b1, b2, b3, b4, b5], _ => rfl
def sOf (b : List Int) : Nat := (sectorsF (fN b)).toNat
def codeOk (b : List Int) : Prop :=
 64 ≤ b.length ∧ at_ b 0 = 1 ∧ headOk (head0 b) ∧ 64 * sOf b ≤ b.length ∧ (∀ i, i < sOf b → at_ b (64 * i) = mk i) ∧
 ((allF b (sOf b)).take 24).drop 16 = (sha ((allF b (sOf b)).take 16 ++ fB b)).take 8 ∧ ∀ x ∈ (allF b (sOf b)).drop (24 + fN b), x = 0
theorem sOf_is {b : List Int} (h : fN b ≤ 60000) : sOf b = (24 + fN b + 62) / 63 := by unfold sOf sectorsF; rw [if_neg (by omega)]; omega
theorem fB_len {b : List Int} (h : fN b ≤ 60000) (hs : 64 * sOf b ≤ b.length) : (fB b).length = fN b := by
 have e := sOf_is h
 have l := allF_len (sOf b) hs
 unfold fB
 rw [List.length_drop, List.length_take]
 change min (24 + fN b) (allF b (sOf b)).length - 24 = fN b
 rw [l]; omega
theorem fits_four {n : Nat} (h : n < 4294967296) : fits (n : Int) 4 = true := by unfold fits; simp; omega
theorem fits_one {n : Nat} (h : n < 256) : fits (n : Int) 1 = true := by unfold fits; simp; omega
theorem errF_of {b : List Int} (hb : Bytes b) (h : fN b ≤ 60000) (hs : 64 * sOf b ≤ b.length) : errF (frameOf b) = 0 := by
 have h1 : fK b < 256 := by
  have := val_lt ((h14 b).take 1) (((hb.take _).drop _).take _)
  have h2 : 256 ^ ((h14 b).take 1).length ≤ 256 ^ 1 := Nat.pow_le_pow_right (by omega) (by simp; omega)
  unfold fK; omega
 have h2 : fG b < 4294967296 := val4 _ ((((hb.take _).drop _).drop _).take _) (by simp; omega)
 have h3 : fS b < 4294967296 := val4 _ ((((hb.take _).drop _).drop _).take _) (by simp; omega)
 unfold errF
 have hl : (frameOf b).body.length = fN b := fB_len h hs
 rw [hl, if_neg (by omega), if_pos ⟨fits_one h1, fits_four h2, fits_four h3⟩]
theorem ok_code {b : List Int} (hb : Bytes b) : getOk b ↔ codeOk b := by
  constructor
  · rintro ⟨h1, h2, h3, h4, h5, h6⟩
    have hn : fN b ≤ 60000 := by
      rcases Nat.lt_or_ge 60000 (fN b) with h | h
      · exact absurd (by unfold sectorsF; rw [if_pos (.inr (by omega))]) h3
      · exact h
    have hS := sOf_is hn
    have hSi : sectorsF (fN b) = (sOf b : Int) := by unfold sOf; have : 0 ≤ sectorsF (fN b) := by unfold sectorsF; split <;> omega
                                                     omega
    rw [hSi] at h4 h6
    have h4' : 64 * sOf b ≤ b.length := by omega
    rw [show (64 * (sOf b : Int)).toNat = 64 * sOf b by omega] at h6
    have he : errF (frameOf b) = 0 := errF_of hb hn h4'
    have hbl : (frameOf b).body.length = fN b := fB_len hn h4'
    have htl : (textF (frameOf b)).length = 24 + fN b := by rw [textF_len, hbl]
    have hsec : secs (textF (frameOf b)).length = sOf b := by rw [htl, hS]; rfl
    simp only [putF] at h6
    rw [if_pos he] at h6
    have hbe : b = laid (textF (frameOf b)) ++ b.drop (64 * sOf b) := by rw [h6, List.take_append_drop]
    obtain ⟨f, hf⟩ : ∃ f, frameOf b = f := ⟨_, rfl⟩
    obtain ⟨r, hr⟩ : ∃ r, b.drop (64 * sOf b) = r := ⟨_, rfl⟩
    rw [hf] at hbe hsec htl hbl
    rw [hr] at hbe
    have hfb : fB b = f.body := by rw [← hf]; rfl
    have hall : allF b (sOf b) = padF (textF f) := by
      have := laid_all (textF f) r
      rw [hsec, ← hbe] at this
      exact this
    have hone : head0 b = headF f := by
      have := laid_body (textF f) r 0 (by omega)
      rw [← hbe] at this
      simp only [Nat.mul_zero, Nat.zero_add, List.drop_zero] at this
      have e1 : head0 b = ((b.drop 1).take 63).take 16 := by rw [head0_is, List.take_take]; rfl
      rw [e1, this, List.take_take, show min 16 63 = 16 from rfl]
      unfold padF textF
      rw [List.append_assoc, List.append_assoc, List.take_append_of_le_length (by rw [headF_len]; omega), List.take_of_length_le (by rw [headF_len]; omega)]
    have h16 : (padF (textF f)).take 16 = headF f := by
      unfold padF textF
      rw [List.append_assoc, List.append_assoc, List.take_append_of_le_length (by rw [headF_len]; omega), List.take_of_length_le (by rw [headF_len]; omega)]
    refine ⟨h1, h2, ⟨?_, ?_, by rw [← fN_head]; exact hn⟩, h4', fun i hi => ?_, ?_, ?_⟩
    · rw [hone]
      rw [show (headF f).take 2 = [99, 102] by unfold headF; rfl]
      rfl
    · rw [hone]
      unfold hZ
      rw [show ((headF f).drop 3).take 1 = [0] by simp [headF, be]]
      rfl
    · have := laid_mark (textF f) r i (by omega)
      rw [← hbe, at_drop] at this
      exact this
    · rw [hall, h16, hfb]
      unfold padF textF
      have l24 : (headF f ++ (sha (headF f ++ f.body)).take 8).length = 24 := by rw [List.length_append, headF_len, List.length_take, sha_len]; rfl
      rw [List.append_assoc, List.take_append_of_le_length (by omega), List.take_of_length_le (by omega), List.drop_append_of_le_length (by rw [headF_len]; omega), List.drop_of_length_le (by rw [headF_len]; omega), List.nil_append]
    · rw [hall]
      intro x hx
      unfold padF at hx
      rw [List.drop_append_of_le_length (by omega), List.drop_of_length_le (by omega), List.nil_append] at hx
      exact List.eq_of_mem_replicate hx
  · rintro ⟨h1, h2, ⟨k1, k2, k3⟩, h4, h5, h6, h7⟩
    have hn : fN b ≤ 60000 := by rw [fN_head]; exact k3
    have hS := sOf_is hn
    have hSi : sectorsF (fN b) = (sOf b : Int) := by unfold sOf; have : 0 ≤ sectorsF (fN b) := by unfold sectorsF; split <;> omega
                                                     omega
    have he : errF (frameOf b) = 0 := errF_of hb hn h4
    have hbl : (frameOf b).body.length = fN b := fB_len hn h4
    have htl : (textF (frameOf b)).length = 24 + fN b := by rw [textF_len, hbl]
    have hsec : secs (textF (frameOf b)).length = sOf b := by rw [htl, hS]; rfl
    refine ⟨h1, h2, by rw [hSi]; omega, by rw [hSi]; omega, by simp only [putF]; exact he, ?_⟩
    simp only [putF]
    rw [if_pos he, hSi, show (64 * (sOf b : Int)).toNat = 64 * sOf b by omega]
    obtain ⟨X, hX⟩ : ∃ X, allF b (sOf b) = X := ⟨_, rfl⟩
    rw [hX] at h6 h7
    have hXl : X.length = 63 * sOf b := by rw [← hX]; exact allF_len _ h4
    have hh : X.take 16 = headF (frameOf b) := by
      have e1 : X.take 16 = head0 b := by
        rw [← hX]
        have : allF b (sOf b) = allF b 1 ++ (allF b (sOf b)).drop 63 := by
          obtain ⟨m, hm⟩ : ∃ m, sOf b = m + 1 := ⟨sOf b - 1, by omega⟩
          have e2 : allF b 1 = (allF b (sOf b)).take 63 := by
            have := cat_piece (X := fun i => (b.drop (64 * i + 1)).take 63) (c := 63) (sOf b) (fun j hj => by rw [List.length_take, List.length_drop]; omega) 0 (by omega) []
            rw [Nat.mul_zero, List.drop_zero, List.append_nil] at this
            unfold allF
            rw [this]
            rfl
          rw [e2, List.take_append_drop]
        rw [this, List.take_append_of_le_length (by rw [allF_len 1 (by omega)]; omega)]
        rfl
      rw [e1, head_is (head0_len h1) (head0_bytes hb) k1 k2]
      unfold headF
      have : (frameOf b).body.length = hN (head0 b) := by rw [hbl, fN_head]
      rw [this]
      show _ = [99, 102] ++ be ((fK b : Nat) : Int).toNat 1 ++ be 0 1 ++ be ((fG b : Nat) : Int).toNat 4 ++ be ((fS b : Nat) : Int).toNat 4 ++ be (hN (head0 b)) 4
      rw [Int.toNat_natCast, Int.toNat_natCast, Int.toNat_natCast, fK_head, fG_head, fS_head]
    have hfB : fB b = (X.take (24 + fN b)).drop 24 := by rw [← hX]; rfl
    have hpad : padF (textF (frameOf b)) = X := by
      have z : X.drop (24 + fN b) = List.replicate (63 * sOf b - (24 + fN b)) 0 := by
        rw [List.eq_replicate_iff]
        exact ⟨by rw [List.length_drop, hXl], h7⟩
      unfold padF
      rw [htl, show secs (24 + fN b) = sOf b by rw [← htl]; exact hsec, ← z]
      have t1 : textF (frameOf b) = X.take (24 + fN b) := by
        unfold textF
        rw [← hh]
        have : (frameOf b).body = (X.take (24 + fN b)).drop 24 := hfB
        rw [this, ← hfB, ← h6, hfB]
        have s1 : X.take 24 = (X.take (24 + fN b)).take 24 := by rw [List.take_take, show min 24 (24 + fN b) = 24 by omega]
        have s2 : X.take 16 = (X.take 24).take 16 := by rw [List.take_take]; rfl
        rw [s2, List.take_append_drop, s1, List.take_append_drop]
      rw [t1, List.take_append_drop]
    rw [laid_is, hsec, hpad, ← cat_pieces b 64 (sOf b)]
    refine cat_congr _ (fun i hi => ?_)
    have hp := cat_piece (X := fun i => (b.drop (64 * i + 1)).take 63) (c := 63) (sOf b) (fun j hj => by rw [List.length_take, List.length_drop]; omega) i hi []
    rw [List.append_nil] at hp
    have hp2 : (X.drop (63 * i)).take 63 = (b.drop (64 * i + 1)).take 63 := by rw [← hX]; exact hp
    rw [hp2, ← h5 i hi]
    have hlt : 64 * i < b.length := by omega
    have hd : b.drop (64 * i) = at_ b (64 * i) :: b.drop (64 * i + 1) := by
      rw [List.drop_eq_getElem_cons hlt]
      congr 1
      simp [at_, hlt]
    rw [hd]
    rfl
theorem get_no {b : List Int} (hb : Bytes b) (h : ¬ codeOk b) : getF b = (noF, 0, 2) := by unfold getF; rw [if_neg (fun k => h ((ok_code hb).1 k))]
theorem get_yes {b : List Int} (hb : Bytes b) (h : codeOk b) : getF b = (frameOf b, (sOf b : Int), 0) := by
  have h3 := (ok_code hb).2 h
  have hn : fN b ≤ 60000 := by rw [fN_head]; exact h.2.2.1.2.2
  have hSi : sectorsF (fN b) = (sOf b : Int) := by unfold sOf; have : 0 ≤ sectorsF (fN b) := by unfold sectorsF; split <;> omega
                                                   omega
  unfold getF; rw [if_pos h3, hSi]
end Go.Proofs.YtkbehjdglgpgjaaGreat.Frame
