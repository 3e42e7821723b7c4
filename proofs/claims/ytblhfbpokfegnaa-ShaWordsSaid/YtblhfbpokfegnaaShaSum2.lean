/-
  (*Hash).Sum and One: 32 bytes in new memory; what was written stands as it stood.
-/
import Derived.Test.YtblhfbpokfegnaaShaSum
namespace Go.Proofs.Ytblhfbpokfegnaa.Sha
open Go.RowKit

theorem selS {P : Program} {ops : Array Oper} {Q : Exit → Act → World → Prop} {rest : List Oper} {a : Act} {w : World} (ty : TypeId) (x y : Operand) {c : TypeId} {p : String} {e : Array Edge} {g : Option (Nat × Bool)}
    (h : wpList P ops Q ({ dst := none, op := .store ty x y, type := c, pos := p, after := e, guard := g } :: rest) a w) : wpList P ops Q ({ dst := none, op := .store ty x y, type := c, pos := p, after := e, guard := g } :: rest) a w := h
theorem info_u8 : (Try.prog.info? 5).map (fun i => (i.zero, i.size, i.bytes)) = some (some (.int .u8 0), 1, 1) := by kernel_rfl

/-- the first k words of a state, as bytes -/
def outK (s : S8) (k : Nat) : List Int := (List.range k).flatMap fun i => [at_ s.toL i / 16777216 % 256, at_ s.toL i / 65536 % 256, at_ s.toL i / 256 % 256, at_ s.toL i % 256]
theorem outK_8 (s : S8) : outK s 8 = out8 s := rfl
theorem outK_len (s : S8) (k : Nat) : (outK s k).length = 4 * k := by
  induction k with
  | zero => rfl
  | succ k ih =>
    have : outK s (k + 1) = outK s k ++ [at_ s.toL k / 16777216 % 256, at_ s.toL k / 65536 % 256, at_ s.toL k / 256 % 256, at_ s.toL k % 256] := by simp [outK, List.range_succ]
    rw [this, List.length_append, ih]; simp; omega
theorem outK_succ (s : S8) (k : Nat) : outK s (k + 1) = outK s k ++ [at_ s.toL k / 16777216 % 256, at_ s.toL k / 65536 % 256, at_ s.toL k / 256 % 256, at_ s.toL k % 256] := by simp [outK, List.range_succ]
theorem ints_append (k : IntKind) (l m : List Int) : ints k (l ++ m) = ints k l ++ ints k m := by simp [ints]

theorem new_cells (w : World) (t : TypeId) (cs : List Value) : ∀ j u, cs[j]? = some u → (w.alloc (.cells cs.toArray t)).cell? ((⟨w.heap.size, 0, none⟩ : Addr).add j) = some u := by
  intro j u hj
  have e : (⟨w.heap.size, 0, none⟩ : Addr).add j = ⟨w.heap.size, j, none⟩ := by cases j <;> simp [Addr.add]
  rw [e, (Blk.new w t cs.toArray).cell j, List.getElem?_toArray, hj]
def SumPost (text : List Int) (w : World) (e : Ending) (w' : World) : Prop := ∃ M, e = .returned (.slice (some ⟨M, 0, none⟩) 32 32) ∧ w.heap.size ≤ M ∧ Blk w' M 5 (arr .u8 (sha text)) ∧ Below w.heap.size w w'

set_option maxRecDepth 100000 in
set_option maxHeartbeats 1000000 in
theorem sum_any (hb t : Nat) (text : List Int) (w : World) (hh : Hs w hb t text) (hL0 : text.length < 576460752303423488) :
    Calls Try.prog 16 #[.pointer (some ⟨hb, 0, none⟩)] w (SumPost text w) := by
  obtain ⟨N, hN⟩ : ∃ N, w.heap.size = N := ⟨_, rfl⟩
  obtain ⟨s, hs⟩ : ∃ s, st (text ++ tail text.length) = s := ⟨_, rfl⟩
  obtain ⟨hne, hm, hby, r, hr, hrb, he, hblk⟩ := hh
  have hbN : hb < N := by rw [← hN]; exact hblk.lt
  have tN : t < N := by rw [← hN]; exact Blk.lt hm
  have hcl74 : (hcells t (st text).toL r (text.length : Nat)).size = 74 := by
    rw [hcells, List.size_toArray]; exact hc_len _ _ _ _ rfl hr
  have hone : (hcells t (st text).toL r (text.length : Nat)).all (·.oneCell') = true := by
    refine all_oneCell_toArray fun v hv => ?_
    unfold hcl at hv
    simp only [List.mem_append, List.mem_singleton] at hv
    rcases hv with rfl | hv | hv | rfl
    · rfl
    · exact ints_one _ _ v hv
    · exact ints_one _ _ v hv
    · rfl
  have Hblk := Kept.mk hblk
  have Hcopy : Kept (∀ z : Array Value, Hs ((w.alloc (.cells z 70)).setRow N (hcells t (st text).toL r (text.length : Nat))) N t text ∧ Below N w ((w.alloc (.cells z 70)).setRow N (hcells t (st text).toL r (text.length : Nat)))) := by
    refine ⟨fun z => ?_⟩
    have b : Below N w ((w.alloc (.cells z 70)).setRow N (hcells t (st text).toL r (text.length : Nat))) := below_setRow ((Below.refl _ _).alloc (by omega) _) (Nat.le_refl _) _
    exact ⟨⟨by omega, hm.below b tN, hby, r, hr, hrb, he, (Blk.new_at w _ _ N hN.symm).row _⟩, b⟩
  clear hblk hm hby he hr hrb hne
  have Hone := Kept.mk hone
  have Hcl := Kept.mk hcl74
  clear hone hcl74
  go_enter Try.func16, Try.ntmps16
  go_wp2_with (first
    | ((with_reducible refine sel 9 ?_); refine wpList_load_row rfl 70 (.tmp 8) rfl hb rfl 70 _ (0, 0) _ Hblk.out Try.underlying70 rfl (by rw [Hcl.out]; kernel_rfl) ?_)
    | ((with_reducible refine selS 70 (.tmp 3) (.tmp 9) ?_); refine wpList_store_row rfl 70 (.tmp 3) (.tmp 9) rfl N _ rfl rfl 70 _ (Blk.new_at _ _ _ N hN.symm) (by rw [Hcl.out]; kernel_rfl) (by rw [Hcl.out]; kernel_rfl) Hone.out ?_))
  refine (pad_any N t text _ (Hcopy.out _).1 hL0).mono ?_
  rintro e w2 ⟨rfl, k2, b2⟩
  have bb := (Hcopy.out _).2.trans (b2.below (B := N) (by simp [World.setRow]; omega) (by simp))
  clear b2 Hcopy Hone Hcl Hblk
  obtain ⟨hne2, hm2, hby2, r2, hr2, hrb2, he2, kb⟩ := k2
  rw [hs] at kb
  have e0 : w2.cell? ⟨N, 1, none⟩ = some (.int .u32 s.a) := (kb.cell 1).trans (hc_state _ _ _ _ rfl 0 (by omega))
  have e1 : w2.cell? ⟨N, 2, none⟩ = some (.int .u32 s.b) := (kb.cell 2).trans (hc_state _ _ _ _ rfl 1 (by omega))
  have e2 : w2.cell? ⟨N, 3, none⟩ = some (.int .u32 s.c) := (kb.cell 3).trans (hc_state _ _ _ _ rfl 2 (by omega))
  have e3 : w2.cell? ⟨N, 4, none⟩ = some (.int .u32 s.d) := (kb.cell 4).trans (hc_state _ _ _ _ rfl 3 (by omega))
  have e4 : w2.cell? ⟨N, 5, none⟩ = some (.int .u32 s.e) := (kb.cell 5).trans (hc_state _ _ _ _ rfl 4 (by omega))
  have e5 : w2.cell? ⟨N, 6, none⟩ = some (.int .u32 s.f) := (kb.cell 6).trans (hc_state _ _ _ _ rfl 5 (by omega))
  have e6 : w2.cell? ⟨N, 7, none⟩ = some (.int .u32 s.g) := (kb.cell 7).trans (hc_state _ _ _ _ rfl 6 (by omega))
  have e7 : w2.cell? ⟨N, 8, none⟩ = some (.int .u32 s.h) := (kb.cell 8).trans (hc_state _ _ _ _ rfl 7 (by omega))
  have hN2 := kb.lt
  clear hne2 hm2 hby2 hr2 hrb2 he2 kb
  obtain ⟨M, hM⟩ : ∃ M, w2.heap.size = M := ⟨_, rfl⟩
  obtain ⟨iu, hi, hz0, hz1, hz2⟩ := info_parts info_u8
  have HI := Kept.mk hi; have Z0 := Kept.mk hz0; have Z1 := Kept.mk hz1; have Z2 := Kept.mk hz2
  clear hi hz0 hz1 hz2
  go_wp2_with ((with_reducible refine sel 11 ?_); refine wpList_make_own w2 rfl _ _ 29 rfl N 5 iu (.int .u8 0) 1 Try.underlying29 HI.out Z0.out Z1.out .i64 .i64 32 32 rfl rfl rfl (by rw [Z2.out]; omega) (by unfold maxLen; omega) (by have := bb.size; omega) ?_; intro w3 ho hg; have f0 := hg.cell e0 (by simp); have f1 := hg.cell e1 (by simp); have f2 := hg.cell e2 (by simp); have f3 := hg.cell e3 (by simp); have f4 := hg.cell e4 (by simp); have f5 := hg.cell e5 (by simp); have f6 := hg.cell e6 (by simp); have f7 := hg.cell e7 (by simp); have HO := Kept.mk ho; have HG := Kept.mk hg; clear ho hg; rw [hM])
  have b3 : Below N w w3 := bb.grown HG.out (by omega) (by simp)
  go_loopw [4, 14] (fun v i wr => ∃ k : Nat, k ≤ 8 ∧ v = .slice (some ⟨M, 0, none⟩) (4 * k) 32 ∧ i = .int .i64 k ∧ Kept (wr.ownsRow N 5 1 (.slice (some ⟨M, 0, none⟩) (4 * k) 32) (4 * k) (ints .u8 (outK s k))) ∧ Below N w wr) (fun _ i _ => 8 - (intOf i).toNat)
  case atStart => exact ⟨0, by omega, rfl, rfl, ⟨by have := HO.out; rw [hM] at this; exact this⟩, b3⟩
  case round =>
    clear HO HG f0 f1 f2 f3 f4 f5 f6 f7 b3 e0 e1 e2 e3 e4 e5 e6 e7
    obtain ⟨k, hk, rfl, rfl, ho, b1⟩ := hrel
    by_cases hlt : k < 8
    · have hix : (Instr.index 64 (.agg #[.int .u32 s.a, .int .u32 s.b, .int .u32 s.c, .int .u32 s.d, .int .u32 s.e, .int .u32 s.f, .int .u32 s.g, .int .u32 s.h]) (.int .i64 (k : Int))).run Try.prog wr = .ok (.int .u32 (at_ s.toL k)) wr :=
        index_arr (P := Try.prog) (k := .u32) (l := s.toL) Try.underlying64 Try.underlying36 (by kernel_rfl) rfl k hlt wr
      have k8 : (k : Int) < 8 := by omega
      have hx := S8.at32 (s := s) (by rw [← hs]; exact st_ok _) k
      have hsucc := outK_succ s k
      generalize at_ s.toL k = x at *
      obtain ⟨hx0, hx1⟩ := hx
      have Hsucc := Kept.mk hsucc
      clear hsucc
      have hx24 : x / 16777216 % 256 = x / 16777216 := by omega
      have Hx24 := Kept.mk hx24
      clear hx24
      have hMN : N ≤ M := by have := bb.size; omega
      go_wp2_with ((with_reducible refine sel 30 ?_); refine wpList_append_fits _ rfl (.tmp 17) (.tmp 29) 29 rfl N 5 iu 1 Try.underlying29 HI.out Z1.out M (4 * k) 32 (ints .u8 (outK s k)) rfl (ho.out.alloc _) ⟨wr.heap.size, 0, none⟩ 4 4 [.int .u8 (x / 16777216), .int .u8 (x / 65536 % 256), .int .u8 (x / 256 % 256), .int .u8 (x % 256)] rfl rfl (new_cells _ _ _) (by intro u hu; simp only [List.mem_cons, List.not_mem_nil, or_false] at hu; rcases hu with rfl | rfl | rfl | rfl <;> rfl) (by omega) ?_; intro w4 ho4 hg4; have b4 := Kept.mk ((b1.alloc (by have := b1.size; omega) _).grown hg4 (by have := b1.size; simp; omega) (by intro g hg; injection hg with hg; omega)); have O4 := Kept.mk ho4; clear ho4 hg4)
      go_roundw
      case rel =>
        refine ⟨k + 1, by omega, rfl, by go_num, ⟨?_⟩, b4.out⟩
        have := O4.out
        rw [Hsucc.out, ints_append]
        simpa [ints, Hx24.out, Nat.mul_add] using this
      case measure => simp [intOf]; omega
    · have ek : k = 8 := by omega
      have h8 := ho.out
      rw [ek] at h8
      clear ho hk hlt
      have hM2 : w.heap.size ≤ M := by have := bb.size; omega
      have hk2 : Blk wr M 5 (arr .u8 (sha text)) := by
        rcases h8.2 with ⟨h, _⟩ | ⟨g, cap, cur, hv, hg, hh, hnc, _, hsz, htk⟩
        · cases h
        · injection hv with h1 h2 h3
          injection h1 with h1
          injection h1 with h1
          subst h1 h3
          have e : cur = arr .u8 (sha text) := by
            have hs2 : sha text = outK s 8 := by rw [outK_8, ← hs]; rfl
            rw [hs2, arr, ← htk, List.take_of_length_le (by rw [Array.length_toList, hsz]; omega)]
          rw [← e]; exact hh
      have K2 := Kept.mk hk2
      clear hk2 h8
      subst ek
      go_wp2
      go_ret
      exact ⟨M, rfl, hM2, K2.out, hN ▸ b1⟩

/-- a table holds no bytes -/
theorem tab_u8 {w : World} {t i : Nat} {x : Int} (h : Tab w t) : w.cell? ⟨t, i, none⟩ ≠ some (.int .u8 x) := by
  have key : ∀ (a b : Int) (n m : Nat), (tbl (.int .u32 a) (.int .i32 b) (.int .u32 0) n m)[i]? ≠ some (.int .u8 x) := by
    intro a b n m
    by_cases h0 : i = 0
    · subst h0; rw [tbl_0]; simp
    · by_cases h1 : i = 1
      · subst h1; rw [tbl_1]; simp
      · by_cases h2 : i = 2
        · subst h2; rw [tbl_2]; simp
        · by_cases h3 : i < 67
          · obtain ⟨j, rfl⟩ : ∃ j, i = 3 + j := ⟨i - 3, by omega⟩
            rw [tbl_word _ _ _ _ _ _ (by omega)]; simp
          · by_cases h4 : i < 75
            · obtain ⟨j, rfl⟩ : ∃ j, i = 67 + j := ⟨i - 67, by omega⟩
              rw [tbl_start _ _ _ _ _ _ (by omega)]; simp
            · have : (tbl (.int .u32 a) (.int .i32 b) (.int .u32 0) n m)[i]? = none := by
                rw [tbl, List.getElem?_toArray, List.getElem?_eq_none]
                simp [partK_len]; omega
              rw [this]; simp
  rcases h with h | h
  · rw [Blk.cell h]; exact key _ _ _ _
  · rw [Blk.cell h]; exact key _ _ _ _

/-- a slice of bytes in memory, to be read: they are xs -/
def Rd (w : World) (A : Option Addr) (n : Nat) (xs : List Int) : Prop :=
  xs.length = n ∧ Bytes xs ∧ (n = 0 ∨ ∃ b o, A = some ⟨b, o, none⟩ ∧ ∀ i, i < n → w.cell? ⟨b, o + i, none⟩ = some (.int .u8 (at_ xs i)))
theorem Rd.sl {w w' : World} {A : Option Addr} {n : Nat} {xs : List Int} {t h : Nat} (r : Rd w A n xs) (ht : Tab w t) (b : Bar [t] w w') (hh : w.heap.size ≤ h) : Sl w' A n xs h := by
  obtain ⟨h1, h2, h3⟩ := r
  refine ⟨h1, h2, ?_⟩
  by_cases h0 : n = 0
  · exact .inl h0
  · rcases h3 with h3 | ⟨bb, o, rfl, hc⟩
    · exact absurd h3 h0
    · have hlt : bb < w.heap.size := World.block_lt_of_cell? _ _ (hc 0 (by omega))
      have hne : bb ≠ t := by
        rintro rfl
        exact tab_u8 ht (hc 0 (by omega))
      exact .inr ⟨bb, o, rfl, by omega, fun i hi => by rw [← hc i hi]; exact World.cell?_of_block (w := w) (b.block bb hlt (by simpa using hne))⟩
theorem Rd.keep {w w' : World} {A : Option Addr} {n : Nat} {xs : List Int} {l : List Nat} (r : Rd w A n xs) (b : Bar l w w') (hl : ∀ x ∈ l, w.heap.size ≤ x ∨ ∀ o, A ≠ some ⟨x, o, none⟩) : Rd w' A n xs := by
  obtain ⟨h1, h2, h3⟩ := r
  refine ⟨h1, h2, h3.imp id ?_⟩
  rintro ⟨bb, o, rfl, hc⟩
  refine ⟨bb, o, rfl, fun i hi => ?_⟩
  have hlt : bb < w.heap.size := World.block_lt_of_cell? _ _ (hc i hi)
  rw [← hc i hi]
  refine World.cell?_of_block (w := w) (b.block bb hlt (fun hm => ?_))
  rcases hl bb hm with h | h
  · omega
  · exact h o rfl
theorem Rd.tab {w w' : World} {A : Option Addr} {n : Nat} {xs : List Int} {t : Nat} (r : Rd w A n xs) (ht : Tab w t) (b : Bar [t] w w') : Rd w' A n xs := by
  obtain ⟨h1, h2, h3⟩ := r
  refine ⟨h1, h2, ?_⟩
  by_cases h0 : n = 0
  · exact .inl h0
  · rcases h3 with h3 | ⟨bb, o, rfl, hc⟩
    · exact absurd h3 h0
    · have hlt : bb < w.heap.size := World.block_lt_of_cell? _ _ (hc 0 (by omega))
      have hne : bb ≠ t := by
        rintro rfl
        exact tab_u8 ht (hc 0 (by omega))
      exact .inr ⟨bb, o, rfl, fun i hi => by rw [← hc i hi]; exact World.cell?_of_block (w := w) (b.block bb hlt (by simpa using hne))⟩
theorem Rd.blk {w : World} {M n : Nat} {T : TypeId} {xs : List Int} (h : Blk w M T (arr .u8 xs)) (hb : Bytes xs) (hn : xs.length = n) : Rd w (some ⟨M, 0, none⟩) n xs :=
  ⟨hn, hb, .inr ⟨M, 0, rfl, fun i hi => by rw [Nat.zero_add]; exact h.at_ i (by omega)⟩⟩
theorem Rd.nil_ {w : World} {A : Option Addr} : Rd w A 0 [] := ⟨rfl, by intro x hx; simp at hx, .inl rfl⟩

def OnePost (t : Nat) (xs : List Int) (w : World) (e : Ending) (w' : World) : Prop := ∃ M, e = .returned (.slice (some ⟨M, 0, none⟩) 32 32) ∧ w.heap.size ≤ M ∧ Blk w' M 5 (arr .u8 (sha xs)) ∧ Made w' t ∧ Bar [t] w w'
theorem out8_bytes {s : S8} : Bytes (out8 s) := by
  intro x hx
  unfold out8 at hx
  obtain ⟨y, hy, hx⟩ := List.mem_flatMap.1 hx
  simp only [List.mem_cons, List.not_mem_nil, or_false] at hx
  rcases hx with rfl | rfl | rfl | rfl <;> constructor <;> omega
theorem sha_bytes (l : List Int) : Bytes (sha l) := out8_bytes

set_option maxRecDepth 100000 in
set_option maxHeartbeats 1000000 in
theorem one_any (t : Nat) (A : Option Addr) (n cap : Nat) (xs : List Int) (w : World) (ht : Tab w t) (hr : Rd w A n xs) (hcap : n ≤ cap) (hmax : cap ≤ 9223372036854775807) (hn : n < 576460752303423488) :
    Calls Try.prog 18 #[.pointer (some ⟨t, 0, none⟩), .slice A n cap] w (OnePost t xs w) := by
  have HT := Kept.mk ht
  have HR := Kept.mk hr
  clear ht hr
  go_enter Try.func18, Try.ntmps18
  go_wp2_with fail
  refine (new_any t w HT.out).mono ?_
  rintro e w1 ⟨h, rfl, hh, hs1, b1⟩
  have cw := write_any h t [] xs A n cap w1 hs1 (HR.out.sl HT.out b1 hh) hcap hmax (by simp; omega)
  have Cw := Kept.mk cw
  have B1 := Kept.mk b1
  clear hs1 cw b1
  go_wp2_with fail
  refine Cw.out.mono ?_
  rintro e w2 ⟨rfl, hs2, b2⟩
  have cs := sum_any h t _ w2 hs2 (by rw [List.nil_append, HR.out.1]; omega)
  have Cs := Kept.mk cs
  have B2 := Kept.mk b2
  have Hs2 := Kept.mk hs2
  clear hs2 cs b2
  go_wp2_with fail
  refine Cs.out.mono ?_
  rintro e w3 ⟨M, rfl, hM, k3, b3⟩
  have K3 := Kept.mk k3
  have B3 := Kept.mk b3
  clear k3 b3
  go_wp2
  go_ret
  refine ⟨M, rfl, by have := B1.out.size; have := B2.out.size; omega, K3.out, Blk.below Hs2.out.2.1 B3.out (Blk.lt Hs2.out.2.1), ?_⟩
  exact (B1.out.trans B2.out (by simp; omega)).trans (barOf B3.out []) (by simp)
end Go.Proofs.Ytblhfbpokfegnaa.Sha
