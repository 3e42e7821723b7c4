/-
  The document's own disk in memory: NewDisk, burns, Fuse, Pending.
-/
import Derived.Test.YtgjmnefninmoiaaDiskSpec
import Derived.Test.YtgjmnefninmoiaaBytes
import Derived.Test.YtgjmnefninmoiaaInts
import Derived.Deep.RegionHeld3
import Derived.Deep.AppendLies
import Derived.Lib.ConvBytes
namespace Go.Proofs.Ytgjmnefninmoiaa.Disk
open Go.RowKit Go.Proofs.Ytgjmnefninmoiaa.Sha

/-- texts in a row's block: they spell l -/
def strs (l : List (List Int)) : List Value := l.map fun r => .string (strOfNums r)
def Strs (w : World) (g : Nat) (l : List (List Int)) : Prop := ∃ cs, Blk w g 9 cs ∧ ∀ j, j < l.length → cs[j]? = some (.string (strOfNums (rowOf l j)))
theorem Strs.lt {w : World} {g : Nat} {l : List (List Int)} (h : Strs w g l) : g < w.heap.size := by
  obtain ⟨cs, h1, -⟩ := h
  exact h1.lt
theorem Strs.bar {w w' : World} {g : Nat} {l : List (List Int)} {G : List Nat} (h : Strs w g l) (b : Bar G w w') (hg : g ∉ G) : Strs w' g l := by
  obtain ⟨cs, h1, h2⟩ := h
  exact ⟨cs, h1.bar b hg, h2⟩
theorem Strs.cell {w : World} {g : Nat} {l : List (List Int)} (h : Strs w g l) (j : Nat) (hj : j < l.length) : w.cell? ⟨g, j, none⟩ = some (.string (strOfNums (rowOf l j))) := by
  obtain ⟨cs, h1, h2⟩ := h
  rw [h1.cell j, h2 j hj]
theorem Strs.frozen {w : World} {g : Nat} {l : List (List Int)} (h : Strs w g l) (j : Nat) : w.frozen? ⟨g, j, none⟩ = false := by
  obtain ⟨cs, h1, -⟩ := h
  exact h1.frozen j
theorem Strs.set {w : World} {g : Nat} {l : List (List Int)} (h : Strs w g l) (i : Nat) (x : List Int) (hi : i < l.length) : Strs (w.setCell ⟨g, i, none⟩ (.string (strOfNums x))) g (l.set i x) := by
  obtain ⟨cs, h1, h2⟩ := h
  refine ⟨_, h1.set_ i _, fun j hj => ?_⟩
  rw [List.length_set] at hj
  have hc : i < cs.size := by
    have := h2 i hi
    exact (Array.getElem?_eq_some_iff.1 this).1
  rw [Array.getElem?_setIfInBounds, rowOf_set _ _ _ _ hj]
  by_cases hij : i = j
  · subst hij; simp [hc]
  · simp [hij]; exact h2 j hj
/-- what is pending, as a row of ints -/
def pints (l : List Nat) : List Value := l.map fun (i : Nat) => Value.int .i64 (i : Int)
/-- the document's disk at block d -/
def Dr (w : World) (F : List Nat) (d n : Nat) (s : DS) : Prop := WF n s ∧ ∃ gn cn gl cl vp, Blk w d 48 #[.slice (some ⟨gn, 0, none⟩) n cn, .slice (some ⟨gl, 0, none⟩) n cl, vp, .int .i64 s.fuse, .bool s.down] ∧
  Strs w gn s.now ∧ Strs w gl s.last ∧ gn ≠ gl ∧ w.ownsRow 0 3 1 vp s.pend.length (pints s.pend) ∧ F = d :: gn :: gl :: vp.ownBlock.toList
theorem Dr.lts {w : World} {F : List Nat} {d n : Nat} {s : DS} (h : Dr w F d n s) : ∀ k ∈ F, k < w.heap.size := by
  obtain ⟨-, gn, cn, gl, cl, vp, h1, h2, h3, -, h5, rfl⟩ := h
  intro k hk
  rcases List.mem_cons.1 hk with rfl | hk
  · exact h1.lt
  · rcases List.mem_cons.1 hk with rfl | hk
    · exact h2.lt
    · rcases List.mem_cons.1 hk with rfl | hk
      · exact h3.lt
      · exact own_lt h5 k hk
theorem Dr.keep {w w' : World} {F G : List Nat} {d n : Nat} {s : DS} (h : Dr w F d n s) (b : Bar G w w') (j : Disj F G) : Dr w' F d n s := by
  obtain ⟨h0, gn, cn, gl, cl, vp, h1, h2, h3, h4, h5, rfl⟩ := h
  exact ⟨h0, gn, cn, gl, cl, vp, h1.bar b (j d (by simp)), h2.bar b (j gn (by simp)), h3.bar b (j gl (by simp)), h4, own_keep h5 b (fun g hg => j g (by simp at hg; simp [hg])), rfl⟩
theorem Dr.below {w w' : World} {F : List Nat} {d n : Nat} {s : DS} (h : Dr w F d n s) (b : Below w.heap.size w w') : Dr w' F d n s := h.keep (barOf b []) (fun _ _ => by simp)
theorem info_str : (Try.prog.info? 9).map (fun i => (i.zero, i.size, i.bytes)) = some (some (.string .empty), 1, 16) := by kernel_rfl
/-- a row of texts that the call made, in its block -/
theorem strs_of_own {w : World} {v : Value} {l : List (List Int)} {n : Nat} (h : w.ownsRow 0 9 1 v n (strs l)) (hn : 1 ≤ n) : l.length = n ∧ ∃ g c, v = .slice (some ⟨g, 0, none⟩) n c ∧ n ≤ c ∧ Strs w g l := by
  have hl : l.length = n := by have := h.1; simp [strs] at this; omega
  refine ⟨hl, ?_⟩
  rcases h.2 with ⟨-, h0⟩ | ⟨g, cap, cur, rfl, -, hh, h1, h2, h3, h4⟩
  · omega
  · refine ⟨g, cap, rfl, h1, cur, hh, fun j hj => ?_⟩
    have e : cur.toList.take n = strs l := by simpa using h4
    have e2 : (cur.toList.take n)[j]? = (strs l)[j]? := by rw [e]
    rw [List.getElem?_take_of_lt (by omega)] at e2
    rw [Array.getElem?_toList] at e2
    rw [e2]
    simp [strs, rowOf, hj]
theorem zero64 : strOfNums zeros64 = strOfNums (List.replicate 64 0) := rfl
set_option maxRecDepth 100000 in
set_option maxHeartbeats 400000 in
theorem rburns_any (w : World) (F : List Nat) (d n : Nat) (s : DS) (h : Dr w F d n s) : Calls Try.prog 30 #[.pointer (some ⟨d, 0, none⟩)] w fun e w' => e = .returned (.bool (burnD s).1) ∧ Dr w' F d n (burnD s).2 ∧ Fp F F w w' := by
  obtain ⟨h0, gn, cn, gl, cl, vp, h1, h2, h3, h4, h5, rfl⟩ := h
  have hwf := wf_burn h0
  have hfu := h0.fuse
  have c3 := h1.cell 3
  have z3 := h1.frozen 3
  have z4 := h1.frozen 4
  have c4 : w.cell? ⟨d, 4, none⟩ = some (.bool s.down) := h1.cell 4
  have hdn := blk_ne (g := d) h1 h2.choose_spec.1 (by decide)
  have hdl := blk_ne (g := d) h1 h3.choose_spec.1 (by decide)
  have hdp := own_far h5 h1 (by decide)
  rw [show (#[Value.slice (some ⟨gn, 0, none⟩) n cn, Value.slice (some ⟨gl, 0, none⟩) n cl, vp, Value.int .i64 s.fuse, Value.bool s.down] : Array Value)[3]? = some (.int .i64 s.fuse) from rfl] at c3
  have K1 : ∀ w' f b, Kept (Blk w' d 48 #[.slice (some ⟨gn, 0, none⟩) n cn, .slice (some ⟨gl, 0, none⟩) n cl, vp, .int .i64 f, .bool b]) → Bar [d] w w' → (burnD s).2.fuse = f → (burnD s).2.down = b → Kept (Dr w' (d :: gn :: gl :: vp.ownBlock.toList) d n (burnD s).2 ∧ Fp (d :: gn :: gl :: vp.ownBlock.toList) (d :: gn :: gl :: vp.ownBlock.toList) w w') := by
    intro w' f b k1 kb hf hb
    subst hf hb
    refine ⟨⟨hwf, gn, cn, gl, cl, vp, k1.out, ?_, ?_, h4, ?_, rfl⟩, kb.mono (by simp), fun k hk => .inl hk⟩
    · rw [burn_now]; exact h2.bar kb (by simpa using hdn.symm)
    · rw [burn_last]; exact h3.bar kb (by simpa using hdl.symm)
    · rw [burn_pend]; exact own_keep h5 kb (fun g hg => by simp at hg ⊢; rintro rfl; exact hdp hg)
  have KK := Kept.mk K1
  have H1 := Kept.mk h1
  clear K1 h1 h2 h3 h4 h5 hdn hdl hdp hwf
  by_cases hf : s.fuse = 0
  · have e1 : burnD s = (true, { s with down := true }) := by unfold burnD; rw [if_pos hf]
    rw [e1] at KK ⊢
    rw [hf] at c3
    simp only [hf] at KK H1 ⊢
    clear hfu e1
    go_enter Try.func30, Try.ntmps30
    go_wp2
    go_ret
    exact ⟨rfl, (KK.out _ _ _ ⟨H1.out.set_ 4 (.bool true)⟩ ((Bar.refl [d] w).setCell (by simp) _) rfl rfl).out⟩
  · have hfb : (s.fuse == 0) = false := by simpa using hf
    by_cases hp : 0 < s.fuse
    · have e1 : burnD s = (false, { s with fuse := s.fuse - 1 }) := by unfold burnD; rw [if_neg hf, if_pos hp]
      have hw : wrap64 (s.fuse - 1) = s.fuse - 1 := by unfold wrap64; omega
      rw [e1] at KK ⊢
      clear e1 hfu
      generalize hfz : s.fuse = z at *
      go_enter Try.func30, Try.ntmps30
      go_wp2
      go_ret
      exact ⟨rfl, (KK.out _ _ _ ⟨H1.out.set_ 3 (.int .i64 (z - 1))⟩ ((Bar.refl [d] w).setCell (by simp) _) rfl rfl).out⟩
    · have e1 : burnD s = (false, s) := by unfold burnD; rw [if_neg hf, if_neg hp]
      rw [e1] at KK ⊢
      clear e1 hfu
      generalize hfz : s.fuse = z at *
      go_enter Try.func30, Try.ntmps30
      go_wp2
      go_ret
      exact ⟨rfl, (KK.out _ _ _ H1 (Bar.refl [d] w) rfl rfl).out⟩
theorem rpending_any (w : World) (F : List Nat) (d n : Nat) (s : DS) (h : Dr w F d n s) : Calls Try.prog 25 #[.pointer (some ⟨d, 0, none⟩)] w fun e w' => e = .returned (.int .i64 (s.pend.length : Nat)) ∧ w = w' := by
  obtain ⟨h0, gn, cn, gl, cl, vp, h1, h2, h3, h4, h5, rfl⟩ := h
  obtain ⟨A, cap, rfl⟩ := own_shape h5
  have c2 := h1.cell 2
  rw [show (#[Value.slice (some ⟨gn, 0, none⟩) n cn, Value.slice (some ⟨gl, 0, none⟩) n cl, Value.slice A s.pend.length cap, Value.int .i64 s.fuse, Value.bool s.down] : Array Value)[2]? = some (.slice A s.pend.length cap) from rfl] at c2
  clear h1 h2 h3 h4 h5 h0
  go_enter Try.func25, Try.ntmps25
  go_wp2
  go_ret
  exact ⟨rfl, rfl⟩
set_option maxRecDepth 100000 in
set_option maxHeartbeats 400000 in
theorem rfuse_any (w : World) (F : List Nat) (d n : Nat) (s : DS) (f : Int) (h : Dr w F d n s) (hf : f ≤ 9223372036854775807) : Calls Try.prog 21 #[.pointer (some ⟨d, 0, none⟩), .int .i64 f] w fun e w' => e = .returned (.tuple #[]) ∧ Dr w' F d n (fuseD s f) ∧ Fp F F w w' := by
  obtain ⟨h0, gn, cn, gl, cl, vp, h1, h2, h3, h4, h5, rfl⟩ := h
  have hwf := wf_fuse h0 f hf
  have z3 := h1.frozen 3
  have hdn := blk_ne (g := d) h1 h2.choose_spec.1 (by decide)
  have hdl := blk_ne (g := d) h1 h3.choose_spec.1 (by decide)
  have hdp := own_far h5 h1 (by decide)
  have c3 := h1.cell 3
  rw [show (#[Value.slice (some ⟨gn, 0, none⟩) n cn, Value.slice (some ⟨gl, 0, none⟩) n cl, vp, Value.int .i64 s.fuse, Value.bool s.down] : Array Value)[3]? = some (.int .i64 s.fuse) from rfl] at c3
  have K1 : ∀ w' x, Kept (Blk w' d 48 #[.slice (some ⟨gn, 0, none⟩) n cn, .slice (some ⟨gl, 0, none⟩) n cl, vp, .int .i64 x, .bool s.down]) → Bar [d] w w' → (if f < -1 then -1 else f) = x → Kept (Dr w' (d :: gn :: gl :: vp.ownBlock.toList) d n (fuseD s f) ∧ Fp (d :: gn :: gl :: vp.ownBlock.toList) (d :: gn :: gl :: vp.ownBlock.toList) w w') := by
    intro w' x k1 kb hx
    subst hx
    exact ⟨⟨hwf, gn, cn, gl, cl, vp, k1.out, h2.bar kb (by simpa using hdn.symm), h3.bar kb (by simpa using hdl.symm), h4, own_keep h5 kb (fun g hg => by simp at hg ⊢; rintro rfl; exact hdp hg), rfl⟩, kb.mono (by simp), fun k hk => .inl hk⟩
  have KK := Kept.mk K1
  have H1 := Kept.mk h1
  clear K1 h1 h2 h3 h4 h5 hdn hdl hdp hwf h0
  generalize s.fuse = z at *
  by_cases hn : f < -1
  · go_enter Try.func21, Try.ntmps21
    go_wp2
    go_end0
    exact ⟨rfl, (KK.out _ _ ⟨H1.out.set_ 3 (.int .i64 (-1))⟩ ((Bar.refl [d] w).setCell (by simp) _) (if_pos hn)).out⟩
  · go_enter Try.func21, Try.ntmps21
    go_wp2
    go_end0
    exact ⟨rfl, (KK.out _ _ ⟨H1.out.set_ 3 (.int .i64 f)⟩ ((Bar.refl [d] w).setCell (by simp) _) (if_neg (by omega))).out⟩
end Go.Proofs.Ytgjmnefninmoiaa.Disk
