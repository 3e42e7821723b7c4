/-
  Package disk: its Disk in memory; the fuse, Down, Len, Pending, Fuse, New.
-/
import Derived.Test.YtgjmnefninmoiaaDiskMap
import Derived.Test.YtgjmnefninmoiaaDiskApi
import Derived.Laws.LoneSync
import Derived.Deep.MidRow
namespace Go.Proofs.Ytgjmnefninmoiaa.Disk
open Go.RowKit Go.Proofs.Ytgjmnefninmoiaa.Sha

/-- behind a store of many cells -/
theorem blk_setCells {g : Nat} {t : TypeId} : ∀ (vs : List Value) (o : Nat) (w : World) (cs : Array Value), Blk w g t cs →
    ∃ cs', Blk (w.setCells g o vs) g t cs' ∧ cs'.size = cs.size ∧ ∀ k, k < cs.size → cs'[k]? = if o ≤ k ∧ k < o + vs.length then vs[k - o]? else cs[k]?
  | [], o, w, cs, h => ⟨cs, h, rfl, fun k _ => by rw [if_neg (by simp)]⟩
  | v :: r, o, w, cs, h => by
    obtain ⟨cs', h1, h2, h3⟩ := blk_setCells r (o + 1) _ _ (h.set_ o v)
    refine ⟨cs', h1, by simpa using h2, fun k hk => ?_⟩
    rw [h3 k (by simpa using hk), Array.getElem?_setIfInBounds]
    by_cases ho : o = k
    · subst ho
      rw [if_neg (by omega), if_pos rfl, if_pos hk, if_pos (show o ≤ o ∧ o < o + (v :: r).length from ⟨Nat.le_refl _, by simp⟩), Nat.sub_self]
      rfl
    · by_cases hr : o + 1 ≤ k ∧ k < o + 1 + r.length
      · rw [if_pos hr, if_pos (by simp only [List.length_cons]; omega), show k - o = (k - (o + 1)) + 1 by omega, List.getElem?_cons_succ]
      · rw [if_neg hr, if_neg ho, if_neg (by simp only [List.length_cons]; omega)]
theorem bar_setCells (g : Nat) : ∀ (vs : List Value) (o : Nat) (w : World), Bar [g] w (w.setCells g o vs)
  | [], _, w => Bar.refl _ w
  | v :: r, o, w => ((Bar.refl [g] w).setCell (p := ⟨g, o, none⟩) (by simp) v).trans (bar_setCells g r (o + 1) _) (by simp)
/-- sectors in a row's block, one behind the other -/
def Sx (w : World) (g : Nat) (l : List (List Int)) : Prop := ∃ cs, Blk w g 65 cs ∧ ∀ i, i < l.length → ∀ j, j < 64 → cs[i * 64 + j]? = some (.int .u8 (at_ (rowOf l i) j))
theorem Sx.lt {w : World} {g : Nat} {l : List (List Int)} (h : Sx w g l) : g < w.heap.size := by
  obtain ⟨cs, h1, -⟩ := h
  exact h1.lt
theorem Sx.bar {w w' : World} {g : Nat} {l : List (List Int)} {G : List Nat} (h : Sx w g l) (b : Bar G w w') (hg : g ∉ G) : Sx w' g l := by
  obtain ⟨cs, h1, h2⟩ := h
  exact ⟨cs, h1.bar b hg, h2⟩
theorem Sx.range {w : World} {g : Nat} {l : List (List Int)} (h : Sx w g l) (i : Nat) (hi : i < l.length) (h64 : (rowOf l i).length = 64) : w.rangeAt g (i * 64) (ints .u8 (rowOf l i)) := by
  obtain ⟨cs, h1, h2⟩ := h
  intro j v hj
  have hjl : j < (rowOf l i).length := by have := (List.getElem?_eq_some_iff.1 hj).1; rwa [ints_len] at this
  rw [Sha.ints_at _ _ _ hjl] at hj
  rw [h1.cell, h2 i hi j (by omega), hj]
theorem info_sec : (Try.prog.info? 65).map (·.size) = some 64 := by kernel_rfl
/-- a sector is loaded -/
theorem Sx.load {w : World} {g : Nat} {l : List (List Int)} (h : Sx w g l) (i : Nat) (hi : i < l.length) (h64 : (rowOf l i).length = 64) : (Instr.loadAt 65 (.pointer (some ⟨g, i * 64, none⟩))).run Try.prog w = .ok (.agg (arr .u8 (rowOf l i))) w :=
  run_loadAt_mid w g (i * 64) 65 (ints .u8 (rowOf l i)) _ (h.range i hi h64) Try.underlying65 rfl (by rw [info_sec, ints_len, h64])
/-- a sector is stored -/
theorem Sx.store {w : World} {g : Nat} {l : List (List Int)} (h : Sx w g l) (i : Nat) (hi : i < l.length) (x : List Int) (h64 : x.length = 64) : ∃ w', (Instr.storeAt 65 (.pointer (some ⟨g, i * 64, none⟩)) (.agg (arr .u8 x))).run Try.prog w = .ok () w' ∧ Sx w' g (l.set i x) ∧ Bar [g] w w' := by
  obtain ⟨cs, h1, h2⟩ := h
  have hsz : (arr .u8 x).size = 64 := by rw [arr_size, h64]
  refine ⟨_, run_storeAt_mid w g (i * 64) 65 (arr .u8 x) (fun j hj => ⟨?_, h1.frozen _⟩) (by rw [info_sec, hsz]) (all_oneCell_toArray (ints_one _ _)), ?_, bar_setCells _ _ _ _⟩
  · rw [h1.cell, h2 i hi j (by omega)]; rfl
  · obtain ⟨cs', k1, k2, k3⟩ := blk_setCells (arr .u8 x).toList (i * 64) w cs h1
    have hl : (arr .u8 x).toList = ints .u8 x := rfl
    refine ⟨cs', k1, fun i' hi' j hj => ?_⟩
    rw [List.length_set] at hi'
    have hc := h2 i' hi' j hj
    rw [k3 _ (Array.getElem?_eq_some_iff.1 hc).1, rowOf_set _ _ _ _ hi', hl, ints_len, h64]
    by_cases hii : i = i'
    · subst hii
      rw [if_pos (by omega), if_pos rfl, show i * 64 + j - i * 64 = j by omega, Sha.ints_at _ _ _ (by omega)]
    · rw [if_neg (by omega), if_neg hii, hc]
def u01 : Bool → Int
  | true => 1
  | false => 0
theorem u01_ne (b : Bool) : (u01 b != 0) = b := by cases b <;> rfl
/-- package disk's Disk at block d -/
def Dk (w : World) (F : List Nat) (d n : Nat) (s : DS) : Prop := WF n s ∧ ∃ gw cw gm f, Blk w d 62 #[.slice (some ⟨gw, 0, none⟩) n cw, .map (some gm), .int .i64 f, .int .u32 (u01 s.down)] ∧
  Sx w gw s.now ∧ Mp w gm s.pend s.last ∧ (if f < -1 then -1 else f) = s.fuse ∧ F = d :: gw :: gm :: []
theorem Dk.lts {w : World} {F : List Nat} {d n : Nat} {s : DS} (h : Dk w F d n s) : ∀ k ∈ F, k < w.heap.size := by
  obtain ⟨-, gw, cw, gm, f, h1, h2, h3, -, rfl⟩ := h
  intro k hk
  simp only [List.mem_cons, List.not_mem_nil, or_false] at hk
  rcases hk with rfl | rfl | rfl
  · exact h1.lt
  · exact h2.lt
  · exact h3.lt
theorem Dk.keep {w w' : World} {F G : List Nat} {d n : Nat} {s : DS} (h : Dk w F d n s) (b : Bar G w w') (j : Disj F G) : Dk w' F d n s := by
  obtain ⟨h0, gw, cw, gm, f, h1, h2, h3, h4, rfl⟩ := h
  exact ⟨h0, gw, cw, gm, f, h1.bar b (j d (by simp)), h2.bar b (j gw (by simp)), h3.bar b (j gm (by simp)), h4, rfl⟩

theorem bload_any (a : Addr) (d : Bool) (w : World) (hc : w.cell? a = some (.int .u32 (u01 d))) :
    Calls Try.prog 35 #[.pointer (some a)] w fun e w' => e = .returned (.bool d) ∧ w = w' := by
  have hl := run_call_load (P := Try.prog) Try.func41 (by kernel_rfl) (by kernel_rfl) (by kernel_rfl) .u32 (by kernel_rfl) hc
  have hd := u01_ne d
  generalize u01 d = z at *
  go_enter Try.func35, Try.ntmps35
  go_wp2
  go_ret
  exact ⟨rfl, rfl⟩
theorem b32_any (b : Bool) (w : World) : Calls Try.prog 40 #[.bool b] w fun e w' => e = .returned (.int .u32 (u01 b)) ∧ w = w' := by
  cases b with
  | true =>
    go_enter Try.func40, Try.ntmps40
    go_wp2
    go_ret
    exact ⟨rfl, rfl⟩
  | false =>
    go_enter Try.func40, Try.ntmps40
    go_wp2
    go_ret
    exact ⟨rfl, rfl⟩
set_option maxRecDepth 100000 in
set_option maxHeartbeats 400000 in
theorem bstore_any (a : Addr) (b : Bool) (x : Value) (w : World) (hc : w.cell? a = some x) (hz : w.frozen? a = false) :
    Calls Try.prog 34 #[.pointer (some a), .bool b] w fun e w' => e = .returned (.tuple #[]) ∧ w' = w.drew.setCell a (.int .u32 (u01 b)) := by
  have hc' : w.drew.cell? a = some x := by go_simp
  have hz' : w.drew.frozen? a = false := by go_simp
  have hst := run_call_store (P := Try.prog) Try.func39 (by kernel_rfl) (by kernel_rfl) (by kernel_rfl) (by kernel_rfl) (k := .u32) (y := u01 b) hc' hz'
  cases b <;>
  · simp only [u01] at hst ⊢
    go_enter Try.func34, Try.ntmps34
    go_wp2
    go_region_calls
    all_goals (go_end0; exact ⟨rfl, rfl⟩)
theorem dk_0 (a b c e : Value) : (#[a, b, c, e] : Array Value)[0]? = some a := rfl
theorem dk_1 (a b c e : Value) : (#[a, b, c, e] : Array Value)[1]? = some b := rfl
theorem dk_2 (a b c e : Value) : (#[a, b, c, e] : Array Value)[2]? = some c := rfl
theorem dk_3 (a b c e : Value) : (#[a, b, c, e] : Array Value)[3]? = some e := rfl
theorem cdown_any {w : World} {F : List Nat} {d n : Nat} {s : DS} (h : Dk w F d n s) : Calls Try.prog 26 #[.pointer (some ⟨d, 0, none⟩)] w fun e w' => e = .returned (.bool s.down) ∧ w = w' := by
  obtain ⟨h0, gw, cw, gm, f, h1, h2, h3, h4, rfl⟩ := h
  have c3 := (h1.cell 3).trans (dk_3 _ _ _ _)
  have c := Kept.mk (bload_any ⟨d, 3, none⟩ s.down w c3)
  clear h0 h1 h2 h3 h4
  go_enter Try.func26, Try.ntmps26
  go_wp2_with fail
  refine c.out.mono ?_
  rintro e w' ⟨rfl, rfl⟩
  go_wp2
  go_ret
  exact ⟨rfl, rfl⟩
theorem clen_any {w : World} {F : List Nat} {d n : Nat} {s : DS} (h : Dk w F d n s) : Calls Try.prog 27 #[.pointer (some ⟨d, 0, none⟩)] w fun e w' => e = .returned (.int .i64 (n : Nat)) ∧ w = w' := by
  obtain ⟨h0, gw, cw, gm, f, h1, h2, h3, h4, rfl⟩ := h
  have c0 := (h1.cell 0).trans (dk_0 _ _ _ _)
  clear h0 h1 h2 h3 h4
  go_enter Try.func27, Try.ntmps27
  go_wp2
  go_ret
  exact ⟨rfl, rfl⟩
theorem cpending_any {w : World} {F : List Nat} {d n : Nat} {s : DS} (h : Dk w F d n s) : Calls Try.prog 24 #[.pointer (some ⟨d, 0, none⟩)] w fun e w' => e = .returned (.int .i64 (s.pend.length : Nat)) ∧ w = w' := by
  obtain ⟨h0, gw, cw, gm, f, h1, h2, h3, h4, rfl⟩ := h
  have c1 := (h1.cell 1).trans (dk_1 _ _ _ _)
  have hl := fun ty => h3.len ty
  clear h0 h1 h2 h3 h4
  go_enter Try.func24, Try.ntmps24
  go_wp2
  go_ret
  exact ⟨rfl, rfl⟩
/-- is there a sector i? -/
def hasB (n : Nat) (i : Int) : Bool := decide (0 ≤ i ∧ i < n)
theorem chas_any {w : World} {F : List Nat} {d n : Nat} {s : DS} (i : Int) (h : Dk w F d n s) : Calls Try.prog 28 #[.pointer (some ⟨d, 0, none⟩), .int .i64 i] w fun e w' => e = .returned (.bool (hasB n i)) ∧ w = w' := by
  obtain ⟨h0, gw, cw, gm, f, h1, h2, h3, h4, rfl⟩ := h
  have c0 := (h1.cell 0).trans (dk_0 _ _ _ _)
  clear h0 h1 h2 h3 h4
  by_cases hi0 : 0 ≤ i
  · by_cases hin : i < n
    · rw [show hasB n i = true by simp [hasB, hi0, hin]]
      go_enter Try.func28, Try.ntmps28
      go_wp2
      go_ret
      exact ⟨rfl, rfl⟩
    · rw [show hasB n i = false by simp [hasB, hin]]
      go_enter Try.func28, Try.ntmps28
      go_wp2
      go_ret
      exact ⟨rfl, rfl⟩
  · rw [show hasB n i = false by simp [hasB, hi0]]
    go_enter Try.func28, Try.ntmps28
    go_wp2
    go_ret
    exact ⟨rfl, rfl⟩
/-- the struct's block is written, the rest stays -/
theorem Dk.turn {w w' : World} {F : List Nat} {d n : Nat} {s t : DS} {gw cw gm : Nat} {f : Int} (hF : F = d :: gw :: gm :: []) (h1 : ∃ cs, Blk w d 62 cs) (h2 : Sx w gw s.now) (h3 : Mp w gm s.pend s.last) (hw : WF n t)
    (e1 : t.now = s.now) (e2 : t.pend = s.pend) (e3 : t.last = s.last) (k : Blk w' d 62 #[.slice (some ⟨gw, 0, none⟩) n cw, .map (some gm), .int .i64 f, .int .u32 (u01 t.down)]) (hf : (if f < -1 then -1 else f) = t.fuse) (b : Bar [d] w w') : Dk w' F d n t ∧ Fp F F w w' := by
  subst hF
  obtain ⟨cs, h1⟩ := h1
  have n1 : gw ≠ d := by obtain ⟨cs', k', -⟩ := h2; exact blk_ne k' h1 (by decide)
  have n2 : gm ≠ d := h3.ne h1
  refine ⟨⟨hw, gw, cw, gm, f, k, by rw [e1]; exact h2.bar b (by simpa using n1), by rw [e2, e3]; exact h3.bar b (by simpa using n2), hf, rfl⟩, b.mono (by simp), fun k hk => .inl hk⟩
def BurnPost (w : World) (F : List Nat) (d n : Nat) (s : DS) (e : Ending) (w' : World) : Prop := e = .returned (.bool (!(burnD s).1)) ∧ Dk w' F d n (burnD s).2 ∧ Fp F F w w'
set_option maxRecDepth 100000 in
set_option maxHeartbeats 400000 in
theorem cburn_any {w : World} {F : List Nat} {d n : Nat} {s : DS} (h : Dk w F d n s) : Calls Try.prog 29 #[.pointer (some ⟨d, 0, none⟩)] w (BurnPost w F d n s) := by
  obtain ⟨h0, gw, cw, gm, f, h1, h2, h3, h4, rfl⟩ := h
  have hwf := wf_burn h0
  have hfu := h0.fuse
  have c2 := (h1.cell 2).trans (dk_2 _ _ _ _)
  have c3 := (h1.cell 3).trans (dk_3 _ _ _ _)
  have z2 := h1.frozen 2
  have KK := Kept.mk fun (w' : World) (f' : Int) (u : Int) (k1 : Blk w' d 62 #[.slice (some ⟨gw, 0, none⟩) n cw, .map (some gm), .int .i64 f', .int .u32 u]) (kb : Bar [d] w w') (hu : u01 (burnD s).2.down = u) (hf : (if f' < -1 then -1 else f') = (burnD s).2.fuse) =>
    Dk.turn (F := d :: gw :: gm :: []) rfl ⟨_, h1⟩ h2 h3 hwf (burn_now s) (burn_pend s) (burn_last s) (by rw [hu]; exact k1) hf kb
  have ST := Kept.mk (bstore_any ⟨d, 3, none⟩ true _ w c3 (h1.frozen 3))
  have H1 := Kept.mk h1
  clear h1 h2 h3 hwf h0 c3
  by_cases hf : s.fuse = 0
  · have hf0 : f = 0 := by rw [hf] at h4; split at h4 <;> omega
    have e1 : burnD s = (true, { s with down := true }) := by unfold burnD; rw [if_pos hf]
    unfold BurnPost
    rw [e1] at KK ⊢
    subst hf0
    clear hfu e1 h4
    go_enter Try.func29, Try.ntmps29
    go_wp2_with fail
    refine ST.out.mono ?_
    rintro e w' ⟨rfl, rfl⟩
    have K3 := Kept.mk (KK.out _ 0 1 (H1.out.drew.set_ 3 (.int .u32 1)) ((Bar.refl [d] w).drew.setCell (by simp) _) rfl (by rw [hf]; rfl))
    clear KK
    go_wp2
    go_ret
    exact ⟨rfl, K3.out⟩
  · have hfb : (f == 0) = false := by
      simp only [beq_eq_false_iff_ne, ne_eq]
      rintro rfl
      exact hf h4.symm
    by_cases hp : 0 < s.fuse
    · have hff : f = s.fuse := by split at h4 <;> omega
      have e1 : burnD s = (false, { s with fuse := s.fuse - 1 }) := by unfold burnD; rw [if_neg hf, if_pos hp]
      have hw : wrap64 (f - 1) = f - 1 := by unfold wrap64; omega
      unfold BurnPost
      rw [e1] at KK ⊢
      rw [← hff] at hp hfu KK ⊢
      clear e1 h4 hf ST
      have hfn : (if f - 1 < -1 then -1 else f - 1) = f - 1 := if_neg (by omega)
      have HN := Kept.mk hfn
      clear hfn hff hfu
      go_enter Try.func29, Try.ntmps29
      go_wp2
      go_ret
      exact ⟨rfl, KK.out _ (f - 1) _ (H1.out.set_ 2 (.int .i64 (f - 1))) ((Bar.refl [d] w).setCell (by simp) _) rfl HN.out⟩
    · have hff : ¬ 0 < f := by split at h4 <;> omega
      have e1 : burnD s = (false, s) := by unfold burnD; rw [if_neg hf, if_neg hp]
      have HN := Kept.mk h4
      unfold BurnPost
      rw [e1] at KK ⊢
      clear e1 h4 hf hp hfu ST
      go_enter Try.func29, Try.ntmps29
      go_wp2
      go_ret
      exact ⟨rfl, KK.out _ f _ H1.out (Bar.refl [d] w) rfl HN.out⟩
set_option maxHeartbeats 400000 in
theorem cfuse_any {w : World} {F : List Nat} {d n : Nat} {s : DS} (f : Int) (h : Dk w F d n s) (hf : f ≤ 9223372036854775807) : Calls Try.prog 20 #[.pointer (some ⟨d, 0, none⟩), .int .i64 f] w fun e w' => e = .returned (.tuple #[]) ∧ ∃ F', Dk w' F' d n (fuseD s f) ∧ Fp F F' w w' := by
  obtain ⟨h0, gw, cw, gm, f0, h1, h2, h3, h4, rfl⟩ := h
  have z2 := h1.frozen 2
  have c2 := (h1.cell 2).trans (dk_2 _ _ _ _)
  have R := Kept.mk (Dk.turn (t := fuseD s f) (f := f) (F := d :: gw :: gm :: []) rfl ⟨_, h1⟩ h2 h3 (wf_fuse h0 f hf) rfl rfl rfl (h1.set_ 2 (.int .i64 f)) rfl ((Bar.refl [d] w).setCell (by simp) _))
  clear h0 h1 h2 h3 h4
  go_enter Try.func20, Try.ntmps20
  go_wp2
  go_end0
  exact ⟨rfl, _, R.out⟩
theorem cnew_bad (w : World) (n : Int) (h : ¬ (1 ≤ n ∧ n ≤ 8192)) : Calls Try.prog 10 #[.int .i64 n] w fun e w' => e = .returned (.tuple #[.pointer none, .int .i64 1]) ∧ w = w' := by
  by_cases h1 : n < 1
  · clear h
    go_enter Try.func10, Try.ntmps10
    go_wp2
    go_ret2
    exact ⟨rfl, rfl⟩
  · have h2 : 8192 < n := by omega
    clear h
    go_enter Try.func10, Try.ntmps10
    go_wp2
    go_ret2
    exact ⟨rfl, rfl⟩
theorem at_nought (m k : Nat) : at_ (List.replicate m 0) k = 0 := by
  by_cases h : k < m <;> simp [at_, List.getD_eq_getElem?_getD, h]
theorem made_sec (w : World) (n : Nat) (h1 : 1 ≤ n) (h2 : n ≤ 8192) : ∃ w', (Instr.makeSlice 54 (.int .i64 (n : Int)) (.int .i64 (n : Int))).run Try.prog w = .ok (.slice (some ⟨w.heap.size, 0, none⟩) n n) w' ∧ Sx w' w.heap.size (List.replicate n zeros64) ∧ Below w.heap.size w w' := by
  have hi0 : (Try.prog.info? 65).map (fun i => (i.zero, i.size, i.bytes)) = some (some (.agg (arr .u8 zeros64)), 64, 64) := by kernel_rfl
  obtain ⟨iu, hi, hz0, hz1, hz2⟩ := info_parts hi0
  obtain ⟨w', hm, own, gr⟩ := run_makeSlice_full (P := Try.prog) w w.heap.size 54 65 iu _ 64 Try.underlying54 hi hz0 hz1 .i64 .i64 n (by omega) (by rw [hz2]; omega) (by unfold maxLen; omega) (Nat.le_refl _)
  refine ⟨w', hm, ?_, ⟨gr.os, gr.tape, gr.output, gr.size, fun k hk => gr.block k hk (by simp)⟩⟩
  rcases own.2 with ⟨h0, -⟩ | ⟨g, cap, cur, hv, -, hh, h3, -, hs, ht⟩
  · cases h0
  · have hv2 : w.heap.size = g ∧ n = cap := by
      have := hv
      simp only [Value.slice.injEq, Option.some.injEq, Addr.mk.injEq] at this
      omega
    obtain ⟨hg, rfl⟩ := hv2
    rw [hg]
    refine ⟨cur, hh, fun i hi' j hj => ?_⟩
    rw [List.length_replicate] at hi'
    have hk : i * 64 + j < n * 64 := by omega
    have e1 : (cur.toList.take (n * 64))[i * 64 + j]? = some (.int .u8 0) := by
      rw [ht]
      have hsz : (Value.agg (arr .u8 zeros64)).cells = arr .u8 zeros64 := rfl
      have hs64 : (arr .u8 zeros64).size = 64 := rfl
      rw [hsz]
      unfold madeCells
      rw [Array.getElem?_toList, Array.getElem?_map, Array.getElem?_range]
      rw [if_pos hk]
      simp only [Option.map_some, hs64]
      have h6 : (i * 64 + j) % 64 < 64 := Nat.mod_lt _ (by omega)
      have := arr_at .u8 zeros64 ((i * 64 + j) % 64) (by simpa [zeros64] using h6)
      rw [getElem!_def, this]
      rw [show at_ zeros64 ((i * 64 + j) % 64) = 0 from at_nought 64 _]
    rw [List.getElem?_take_of_lt hk, Array.getElem?_toList] at e1
    rw [e1, rowOf_replicate _ _ hi', show at_ zeros64 j = 0 from at_nought 64 _]
set_option maxRecDepth 100000 in
set_option maxHeartbeats 400000 in
theorem cnew_ok (w : World) (n : Nat) (h1 : 1 ≤ n) (h2 : n ≤ 8192) : Calls Try.prog 10 #[.int .i64 n] w (CNewPost Dk w n) := by
  have h1' : (1 : Int) ≤ n := by omega
  have h2' : (n : Int) ≤ 8192 := by omega
  obtain ⟨w1, hmk, sx, b1⟩ := made_sec w n h1 h2
  obtain ⟨G, hG⟩ : ∃ G, w.heap.size = G := ⟨_, rfl⟩
  have hGl := sx.lt
  rw [hG] at hmk sx b1 hGl
  obtain ⟨M, hM⟩ : ∃ M, w1.heap.size = M := ⟨_, rfl⟩
  have mp : Mp (w1.alloc (.map #[] 0)) M [] (List.replicate n zeros64) := by rw [← hM]; exact mp_new _ _
  have hal : ∀ (x : World) (o : Obj), Bar [] x (x.alloc o) := fun x o => (Bar.refl [] x).alloc o
  have sx2 := sx.bar (hal w1 (.map #[] 0)) (by simp)
  have R : Kept (CNewPost Dk w n (.returned (.tuple #[.pointer (some ⟨M + 1, 0, none⟩), .int .i64 0])) ((w1.alloc (.map #[] 0)).alloc (.cells #[.slice (some ⟨G, 0, none⟩) n n, .map (some M), .int .i64 (-1), .int .u32 0] 62))) := by
    refine ⟨M + 1, _, rfl, ⟨wf_new n h1 h2, G, n, M, -1, Blk.new_at _ _ _ _ (by simp [hM]), sx2.bar (hal _ _) (by simp), mp.bar (hal _ _) (by simp), rfl, rfl⟩, ?_, fun k hk => .inr ?_⟩
    · exact barOf (by rw [hG]; exact (b1.alloc (by omega) _).alloc (by simp; omega) _) []
    · simp only [List.mem_cons, List.not_mem_nil, or_false] at hk
      rcases hk with rfl | rfl | rfl <;> omega
  clear sx sx2 mp b1 h1 h2
  have HM := Kept.mk hM
  clear hM hG hGl
  have hmm : (Instr.makeMap 55 none).run Try.prog w1 = .ok (.map (some w1.heap.size)) (w1.alloc (.map #[] 0)) := run_makeMap _ w1
  go_enter Try.func10, Try.ntmps10
  go_wp2
  go_ret2
  rw [HM.out]
  exact R.out
end Go.Proofs.Ytgjmnefninmoiaa.Disk
