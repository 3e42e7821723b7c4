/-
  Parts laid together: DiskRef DiskRef2 DiskRef3.
-/
import Derived.Test.YtkbehjdglgpgjaaGreatPart1
import Derived.Test.YtkbehjdglgpgjaaGreatPart5
import Derived.Test.YtkbehjdglgpgjaaGreatPart4
import Derived.Deep.RegionHeld3
import Derived.Deep.AppendLies
import Derived.Lib.ConvBytes
import Derived.Test.YtkbehjdglgpgjaaGreatPart16
import Derived.Test.YtkbehjdglgpgjaaGreatPart17

namespace Go.Proofs.YtkbehjdglgpgjaaGreat.Disk
open Go.RowKit Go.Proofs.YtkbehjdglgpgjaaGreat.Sha

def strs (l : List (List Int)) : List Value := l.map fun r => .string (strOfNums r)
def Strs (w : World) (g : Nat) (l : List (List Int)) : Prop := ∃ cs, Blk w g 9 cs ∧ ∀ j, j < l.length → cs[j]? = some (.string (strOfNums (rowOf l j)))
theorem Strs.lt {w : World} {g : Nat} {l : List (List Int)} (h : Strs w g l) : g < w.heap.size := by
 obtain ⟨cs, h1, -⟩ := h
 exact h1.lt
theorem Strs.bar {w w' : World} {g : Nat} {l : List (List Int)} {G : List Nat} (h : Strs w g l) (b : Bar G w w') (hg : g ∉ G) : Strs w' g l := by
 obtain ⟨cs, h1, h2⟩ := h
 exact ⟨cs, h1.bar b hg, h2⟩
theorem Strs.cell {w : World} {g : Nat} {l : List (List Int)} (h : Strs w g l) (j : Nat) (hj : j < l.length) : w.cell? ⟨g, j, none⟩ = some (.string (strOfNums (rowOf l j))) := by
 obtain ⟨cs, h1, h2⟩ := h
 rw [h1.cell j, h2 j hj]
theorem Strs.frozen {w : World} {g : Nat} {l : List (List Int)} (h : Strs w g l) (j : Nat) : w.frozen? ⟨g, j, none⟩ = false := by
 obtain ⟨cs, h1, -⟩ := h
 exact h1.frozen j
theorem Strs.set {w : World} {g : Nat} {l : List (List Int)} (h : Strs w g l) (i : Nat) (x : List Int) (hi : i < l.length) : Strs (w.setCell ⟨g, i, none⟩ (.string (strOfNums x))) g (l.set i x) := by
 obtain ⟨cs, h1, h2⟩ := h
 refine ⟨_, h1.set_ i _, fun j hj => ?_⟩
 rw [List.length_set] at hj
 have hc : i < cs.size := by
  have := h2 i hi
  exact (Array.getElem?_eq_some_iff.1 this).1
 rw [Array.getElem?_setIfInBounds, rowOf_set _ _ _ _ hj]
 by_cases hij : i = j
 ·subst hij; simp [hc]
 ·simp [hij]; exact h2 j hj
def pints (l : List Nat) : List Value := l.map fun (i : Nat) => Value.int .i64 (i : Int)
def Dr (w : World) (F : List Nat) (d n : Nat) (s : DS) : Prop := WF n s ∧ ∃ gn cn gl cl vp, Blk w d 50 #[.slice (some ⟨gn, 0, none⟩) n cn, .slice (some ⟨gl, 0, none⟩) n cl, vp, .int .i64 s.fuse, .bool s.down] ∧
 Strs w gn s.now ∧ Strs w gl s.last ∧ gn ≠ gl ∧ w.ownsRow 0 3 1 vp s.pend.length (pints s.pend) ∧ F = d :: gn :: gl :: vp.ownBlock.toList
theorem Dr.lts {w : World} {F : List Nat} {d n : Nat} {s : DS} (h : Dr w F d n s) : ∀ k ∈ F, k < w.heap.size := by
 obtain ⟨-, gn, cn, gl, cl, vp, h1, h2, h3, -, h5, rfl⟩ := h
 intro k hk
 rcases List.mem_cons.1 hk with rfl | hk
 ·exact h1.lt
 ·rcases List.mem_cons.1 hk with rfl | hk
  ·exact h2.lt
  ·rcases List.mem_cons.1 hk with rfl | hk
   ·exact h3.lt
   ·exact own_lt h5 k hk
theorem Dr.keep {w w' : World} {F G : List Nat} {d n : Nat} {s : DS} (h : Dr w F d n s) (b : Bar G w w') (j : Disj F G) : Dr w' F d n s := by
 obtain ⟨h0, gn, cn, gl, cl, vp, h1, h2, h3, h4, h5, rfl⟩ := h
 exact ⟨h0, gn, cn, gl, cl, vp, h1.bar b (j d (by simp)), h2.bar b (j gn (by simp)), h3.bar b (j gl (by simp)), h4, own_keep h5 b (fun g hg => j g (by simp at hg; simp [hg])), rfl⟩
theorem Dr.below {w w' : World} {F : List Nat} {d n : Nat} {s : DS} (h : Dr w F d n s) (b : Below w.heap.size w w') : Dr w' F d n s := h.keep (barOf b []) (fun _ _ => by simp)
theorem info_str : (Tryz.prog.info? 9).map (fun i => (i.zero, i.size, i.bytes)) = some (some (.string .empty), 1, 16) := by kernel_rfl
theorem strs_of_own {w : World} {v : Value} {l : List (List Int)} {n : Nat} (h : w.ownsRow 0 9 1 v n (strs l)) (hn : 1 ≤ n) : l.length = n ∧ ∃ g c, v = .slice (some ⟨g, 0, none⟩) n c ∧ n ≤ c ∧ Strs w g l := by
 have hl : l.length = n := by have := h.1; simp [strs] at this; omega
 refine ⟨hl, ?_⟩
 rcases h.2 with ⟨-, h0⟩ | ⟨g, cap, cur, rfl, -, hh, h1, h2, h3, h4⟩
 ·omega
 ·refine ⟨g, cap, rfl, h1, cur, hh, fun j hj => ?_⟩
  have e : cur.toList.take n = strs l := by simpa using h4
  have e2 : (cur.toList.take n)[j]? = (strs l)[j]? := by rw [e]
  rw [List.getElem?_take_of_lt (by omega)] at e2
  rw [Array.getElem?_toList] at e2
  rw [e2]
  simp [strs, rowOf, hj]
set_option maxRecDepth 100000 in
set_option maxHeartbeats 400000 in
theorem rburns_any (w : World) (F : List Nat) (d n : Nat) (s : DS) (h : Dr w F d n s) : Calls Tryz.prog 47 #[.pointer (some ⟨d, 0, none⟩)] w fun e w' => e = .returned (.bool (burnD s).1) ∧ Dr w' F d n (burnD s).2 ∧ Fp F F w w' := by
 obtain ⟨h0, gn, cn, gl, cl, vp, h1, h2, h3, h4, h5, rfl⟩ := h
 have hwf := wf_burn h0
 have hfu := h0.fuse
 have c3 := h1.cell 3
 have z3 := h1.frozen 3
 have z4 := h1.frozen 4
 have c4 : w.cell? ⟨d, 4, none⟩ = some (.bool s.down) := h1.cell 4
 have hdn := blk_ne (g := d) h1 h2.choose_spec.1 (by decide)
 have hdl := blk_ne (g := d) h1 h3.choose_spec.1 (by decide)
 have hdp := own_far h5 h1 (by decide)
 rw [show (#[Value.slice (some ⟨gn, 0, none⟩) n cn, Value.slice (some ⟨gl, 0, none⟩) n cl, vp, Value.int .i64 s.fuse, Value.bool s.down] : Array Value)[3]? = some (.int .i64 s.fuse) from rfl] at c3
 have K1 : ∀ w' f b, Kept (Blk w' d 50 #[.slice (some ⟨gn, 0, none⟩) n cn, .slice (some ⟨gl, 0, none⟩) n cl, vp, .int .i64 f, .bool b]) → Bar [d] w w' → (burnD s).2.fuse = f → (burnD s).2.down = b → Kept (Dr w' (d :: gn :: gl :: vp.ownBlock.toList) d n (burnD s).2 ∧ Fp (d :: gn :: gl :: vp.ownBlock.toList) (d :: gn :: gl :: vp.ownBlock.toList) w w') := by
  intro w' f b k1 kb hf hb
  subst hf hb
  refine ⟨⟨hwf, gn, cn, gl, cl, vp, k1.out, ?_, ?_, h4, ?_, rfl⟩, kb.mono (by simp), fun k hk => .inl hk⟩
  ·rw [burn_now]; exact h2.bar kb (by simpa using hdn.symm)
  ·rw [burn_last]; exact h3.bar kb (by simpa using hdl.symm)
  ·rw [burn_pend]; exact own_keep h5 kb (fun g hg => by simp at hg ⊢; rintro rfl; exact hdp hg)
 have KK := Kept.mk K1
 have H1 := Kept.mk h1
 clear K1 h1 h2 h3 h4 h5 hdn hdl hdp hwf
 by_cases hf : s.fuse = 0
 ·have e1 : burnD s = (true, { s with down := true }) := by unfold burnD; rw [if_pos hf]
  rw [e1] at KK ⊢
  rw [hf] at c3
  simp only [hf] at KK H1 ⊢
  clear hfu e1
  go_enter Tryz.func47, Tryz.ntmps47
  go_wp2
  go_ret
  exact ⟨rfl, (KK.out _ _ _ ⟨H1.out.set_ 4 (.bool true)⟩ ((Bar.refl [d] w).setCell (by simp) _) rfl rfl).out⟩
 ·have hfb : (s.fuse == 0) = false := by simpa using hf
  by_cases hp : 0 < s.fuse
  ·have e1 : burnD s = (false, { s with fuse := s.fuse - 1 }) := by unfold burnD; rw [if_neg hf, if_pos hp]
   have hw : wrap64 (s.fuse - 1) = s.fuse - 1 := by unfold wrap64; omega
   rw [e1] at KK ⊢
   clear e1 hfu
   generalize hfz : s.fuse = z at *
   go_enter Tryz.func47, Tryz.ntmps47
   go_wp2
   go_ret
   exact ⟨rfl, (KK.out _ _ _ ⟨H1.out.set_ 3 (.int .i64 (z - 1))⟩ ((Bar.refl [d] w).setCell (by simp) _) rfl rfl).out⟩
  ·have e1 : burnD s = (false, s) := by unfold burnD; rw [if_neg hf, if_neg hp]
   rw [e1] at KK ⊢
   clear e1 hfu
   generalize hfz : s.fuse = z at *
   go_enter Tryz.func47, Tryz.ntmps47
   go_wp2
   go_ret
   exact ⟨rfl, (KK.out _ _ _ H1 (Bar.refl [d] w) rfl rfl).out⟩
set_option maxRecDepth 100000 in
set_option maxHeartbeats 400000 in
theorem rfuse_any (w : World) (F : List Nat) (d n : Nat) (s : DS) (f : Int) (h : Dr w F d n s) (hf : f ≤ 9223372036854775807) : Calls Tryz.prog 18 #[.pointer (some ⟨d, 0, none⟩), .int .i64 f] w fun e w' => e = .returned (.tuple #[]) ∧ Dr w' F d n (fuseD s f) ∧ Fp F F w w' := by
 obtain ⟨h0, gn, cn, gl, cl, vp, h1, h2, h3, h4, h5, rfl⟩ := h
 have hwf := wf_fuse h0 f hf
 have z3 := h1.frozen 3
 have hdn := blk_ne (g := d) h1 h2.choose_spec.1 (by decide)
 have hdl := blk_ne (g := d) h1 h3.choose_spec.1 (by decide)
 have hdp := own_far h5 h1 (by decide)
 have c3 := h1.cell 3
 rw [show (#[Value.slice (some ⟨gn, 0, none⟩) n cn, Value.slice (some ⟨gl, 0, none⟩) n cl, vp, Value.int .i64 s.fuse, Value.bool s.down] : Array Value)[3]? = some (.int .i64 s.fuse) from rfl] at c3
 have K1 : ∀ w' x, Kept (Blk w' d 50 #[.slice (some ⟨gn, 0, none⟩) n cn, .slice (some ⟨gl, 0, none⟩) n cl, vp, .int .i64 x, .bool s.down]) → Bar [d] w w' → (if f < -1 then -1 else f) = x → Kept (Dr w' (d :: gn :: gl :: vp.ownBlock.toList) d n (fuseD s f) ∧ Fp (d :: gn :: gl :: vp.ownBlock.toList) (d :: gn :: gl :: vp.ownBlock.toList) w w') := by
  intro w' x k1 kb hx
  subst hx
  exact ⟨⟨hwf, gn, cn, gl, cl, vp, k1.out, h2.bar kb (by simpa using hdn.symm), h3.bar kb (by simpa using hdl.symm), h4, own_keep h5 kb (fun g hg => by simp at hg ⊢; rintro rfl; exact hdp hg), rfl⟩, kb.mono (by simp), fun k hk => .inl hk⟩
 have KK := Kept.mk K1
 have H1 := Kept.mk h1
 clear K1 h1 h2 h3 h4 h5 hdn hdl hdp hwf h0
 generalize s.fuse = z at *
 by_cases hn : f < -1
 ·go_enter Tryz.func18, Tryz.ntmps18
  go_wp2
  go_end0
  exact ⟨rfl, (KK.out _ _ ⟨H1.out.set_ 3 (.int .i64 (-1))⟩ ((Bar.refl [d] w).setCell (by simp) _) (if_pos hn)).out⟩
 ·go_enter Tryz.func18, Tryz.ntmps18
  go_wp2
  go_end0
  exact ⟨rfl, (KK.out _ _ ⟨H1.out.set_ 3 (.int .i64 f)⟩ ((Bar.refl [d] w).setCell (by simp) _) (if_neg (by omega))).out⟩
end Go.Proofs.YtkbehjdglgpgjaaGreat.Disk

namespace Go.Proofs.YtkbehjdglgpgjaaGreat.Disk
open Go.RowKit Go.Proofs.YtkbehjdglgpgjaaGreat.Sha

def RReadPost (w : World) (s : DS) (i : Int) (e : Ending) (w' : World) : Prop := ∃ A c, e = .returned (.tuple #[.slice A (readD s i).2.length c, .int .i64 (readD s i).1]) ∧ Rd w' A (readD s i).2.length (readD s i).2 ∧ Below w.heap.size w w'
set_option maxRecDepth 100000 in
set_option maxHeartbeats 400000 in
theorem rread_any (w : World) (F : List Nat) (d n : Nat) (s : DS) (i : Int) (h : Dr w F d n s) : Calls Tryz.prog 57 #[.pointer (some ⟨d, 0, none⟩), .int .i64 i] w (RReadPost w s i) := by
  obtain ⟨h0, gn, cn, gl, cl, vp, h1, h2, h3, h4, h5, rfl⟩ := h
  have c0 : w.cell? ⟨d, 0, none⟩ = some (.slice (some ⟨gn, 0, none⟩) n cn) := h1.cell 0
  have c4 : w.cell? ⟨d, 4, none⟩ = some (.bool s.down) := h1.cell 4
  have hlen := h0.now
  cases hd : s.down with
  | true =>
    have e1 : readD s i = (13, []) := by unfold readD; rw [if_pos hd]
    have P1 : Kept (RReadPost w s i (.returned (.tuple #[.slice none 0 0, .int .i64 13])) w) := ⟨none, 0, by rw [e1]; rfl, by rw [e1]; exact Rd.nil_, Below.refl _ _⟩
    rw [hd] at c4
    clear h0 h1 h2 h3 h4 h5 e1 c0
    go_enter Tryz.func57, Tryz.ntmps57
    go_wp2
    go_ret2
    exact P1.out
  | false =>
    have hdn : ¬ s.down = true := by simp [hd]
    rw [hd] at c4
    by_cases hi : noSector s i
    · have e1 : readD s i = (1, []) := by unfold readD; rw [if_neg hdn, if_pos hi]
      have P1 : Kept (RReadPost w s i (.returned (.tuple #[.slice none 0 0, .int .i64 1])) w) := ⟨none, 0, by rw [e1]; rfl, by rw [e1]; exact Rd.nil_, Below.refl _ _⟩
      clear h0 h1 h2 h3 h4 h5 e1 hdn hd
      by_cases hi0 : i < 0
      · clear hi
        go_enter Tryz.func57, Tryz.ntmps57
        go_wp2
        go_ret2
        exact P1.out
      · have hin : (n : Int) ≤ i := by unfold noSector at hi; omega
        clear hi
        go_enter Tryz.func57, Tryz.ntmps57
        go_wp2
        go_ret2
        exact P1.out
    · have e1 : readD s i = (0, rowOf s.now i.toNat) := by unfold readD; rw [if_neg hdn, if_neg hi]
      obtain ⟨j, rfl⟩ : ∃ j : Nat, i = j := ⟨i.toNat, by unfold noSector at hi; omega⟩
      have hj : j < n := by unfold noSector at hi; omega
      rw [Int.toNat_natCast] at e1
      have hs := (h0.secs j hj).1
      have x0 := h2.cell j (by omega)
      obtain ⟨w', c, hcv, r, b⟩ := to_bytes w (rowOf s.now j) hs.2
      have P1 : Kept (RReadPost w s j (.returned (.tuple #[.slice (some ⟨w.heap.size, 0, none⟩) (rowOf s.now j).length c, .int .i64 0])) w') := ⟨_, c, by rw [e1], by rw [e1]; exact r, b⟩
      have hj' : (j : Int) < n := by omega
      clear h0 h1 h2 h3 h4 h5 e1 hdn hd hi r b hs
      generalize (rowOf s.now j).length = L at *
      generalize strOfNums (rowOf s.now j) = Z at *
      go_enter Tryz.func57, Tryz.ntmps57
      go_wp2
      go_ret2
      exact P1.out
theorem make64 (w : World) : ∃ w', (Instr.makeSlice 38 (.int .i64 64) (.int .i64 64)).run Tryz.prog w = .ok (.slice (some ⟨w.heap.size, 0, none⟩) 64 64) w' ∧ Rd w' (some ⟨w.heap.size, 0, none⟩) 64 zeros64 ∧ Blk w' w.heap.size 5 (arr .u8 zeros64) ∧ Below w.heap.size w w' := by
 obtain ⟨w', h1, h2, h3⟩ := make_blk w 64 (by omega)
 exact ⟨w', h1, Rd.blk h2 sec_zeros.2 rfl, h2, h3⟩
def RNewPost (w : World) (n : Nat) (e : Ending) (w' : World) : Prop := ∃ d F, e = .returned (.tuple #[.pointer (some ⟨d, 0, none⟩), .int .i64 0]) ∧ Dr w' F d n (newD n) ∧ Fp [] F w w'
theorem grow_one {w wr w1 : World} {o : Obj} {D d idx k m : Nat} {e T : TypeId} {v u v' : Value} {cs : Array Value} {xs ys zs : List Value} (H : Kept (Blk wr d T cs)) (O1 : Kept (wr.ownsRow 0 e 1 v k xs)) (O2 : Kept (wr.ownsRow 0 e 1 u m ys)) (AP : Kept (Apart v u)) (hT : e ≠ T)
    (B : Kept (Below D w wr)) (GE : Kept (∀ g ∈ v.ownBlock.toList ++ u.ownBlock.toList, D ≤ g)) (hd : D ≤ d) (hD : D ≤ wr.heap.size)
    (g1 : (wr.alloc o).grownBy w1 v.ownBlock) (o1 : w1.ownsRow 0 e 1 v' (k + 1) zs) (a1 : v'.ownBlock = v.ownBlock ∨ v'.ownBlock = some (wr.alloc o).heap.size) :
    (Kept (w1.cell? ⟨d, idx, none⟩ = cs[idx]?) ∧ Kept (w1.frozen? ⟨d, idx, none⟩ = false)) ∧ Kept (Blk (w1.setCell ⟨d, idx, none⟩ v') d T (cs.setIfInBounds idx v')) ∧ Kept ((w1.setCell ⟨d, idx, none⟩ v').ownsRow 0 e 1 v' (k + 1) zs) ∧ Kept ((w1.setCell ⟨d, idx, none⟩ v').ownsRow 0 e 1 u m ys) ∧ Kept (Apart v' u) ∧
      Kept (Below D w (w1.setCell ⟨d, idx, none⟩ v')) ∧ Kept (∀ g ∈ v'.ownBlock.toList ++ u.ownBlock.toList, D ≤ g) := by
  have f1 := own_far O1.out H.out hT
  have H1 : Blk w1 d T cs := (H.out.alloc o).grown g1 (Ne.symm f1)
  obtain ⟨p1, p2⟩ := apart_in AP.out (O2.out.alloc o) g1 a1
  have f2 := own_far o1 H1 hT
  have f3 := own_far p1 H1 hT
  have hb : Bar [d] w1 (w1.setCell ⟨d, idx, none⟩ v') := (Bar.refl _ _).setCell (by simp) _
  have hGE : ∀ g ∈ v'.ownBlock.toList, D ≤ g := by
    intro g hg
    rcases a1 with a1 | a1
    · rw [a1] at hg; exact GE.out g (by simp at hg; simp [hg])
    · rw [a1] at hg; simp at hg; omega
  refine ⟨⟨⟨H1.cell idx⟩, ⟨H1.frozen idx⟩⟩, ⟨H1.set_ idx v'⟩, ⟨own_keep o1 hb fun g hg => ?_⟩, ⟨own_keep p1 hb fun g hg => ?_⟩, ⟨fun g h1 h2 => p2 g h2 h1⟩, ⟨?_⟩, ⟨fun g hg => ?_⟩⟩
  · simp at hg ⊢; rintro rfl; exact f2 hg
  · simp at hg ⊢; rintro rfl; exact f3 hg
  · refine ((B.out.alloc hD o).grown g1 (by simp; omega) (fun g hg => GE.out g (by simp [hg]))).setCell hd _
  · rcases List.mem_append.1 hg with hg | hg
    · exact hGE g hg
    · exact GE.out g (by simp at hg; simp [hg])
set_option maxRecDepth 100000 in
set_option maxHeartbeats 1000000 in
theorem rnew_ok (w : World) (n : Nat) (h1 : 1 ≤ n) (h2 : n ≤ 8192) : Calls Tryz.prog 8 #[.int .i64 n] w (RNewPost w n) := by
 have h1' : (1 : Int) ≤ n := by omega
 have h2' : (n : Int) ≤ 8192 := by omega
 obtain ⟨d, hd⟩ : ∃ d, w.heap.size = d := ⟨_, rfl⟩
 have HB := Kept.mk (Blk.new_at w 50 #[.slice none 0 0, .slice none 0 0, .slice none 0 0, .int .i64 (-1), .bool false] d hd.symm)
 have BB : Kept (Below d w (w.alloc (.cells #[.slice none 0 0, .slice none 0 0, .slice none 0 0, .int .i64 (-1), .bool false] 50))) := ⟨(Below.refl _ _).alloc (by omega) _⟩
 obtain ⟨w2, hmk, r, -, b⟩ := make64 (w.alloc (.cells #[.slice none 0 0, .slice none 0 0, .slice none 0 0, .int .i64 (-1), .bool false] 50))
 have HB2 := Kept.mk (HB.out.below b HB.out.lt)
 have BB2 := Kept.mk (BB.out.trans (b.mono (by have := BB.out.size; omega)))
 rw [show (w.alloc (.cells #[.slice none 0 0, .slice none 0 0, .slice none 0 0, .int .i64 (-1), .bool false] 50)).heap.size = d + 1 by simp [hd]] at hmk r
 have hcv := conv_same (cap := 64) r
 have HD := Kept.mk hd
 clear r b HB BB
 go_enter Tryz.func8, Tryz.ntmps8
 obtain ⟨Z, hZ⟩ : ∃ Z, strOfNums zeros64 = Z := ⟨_, rfl⟩
 rw [hZ] at hcv
 have HZ := Kept.mk hZ
 clear hZ
 go_wp2
 clear hmk hcv hd
 go_loopw [6] (fun j wr => ∃ (k : Nat) (vn vl : Value), k ≤ n ∧ j = .int .i64 k ∧ Kept (Blk wr d 50 #[vn, vl, .slice none 0 0, .int .i64 (-1), .bool false]) ∧ Kept (wr.ownsRow 0 9 1 vn k (List.replicate k (.string Z))) ∧ Kept (wr.ownsRow 0 9 1 vl k (List.replicate k (.string Z))) ∧ Kept (Apart vn vl) ∧ Kept (Below d w wr) ∧ Kept (∀ g ∈ vn.ownBlock.toList ++ vl.ownBlock.toList, d ≤ g)) (fun j _ => n - (intOf j).toNat)
 case atStart => exact ⟨0, _, _, by omega, rfl, HB2, ⟨World.ownsRow_nil _ _ _ _⟩, ⟨World.ownsRow_nil _ _ _ _⟩, ⟨fun g h => by simp [Value.ownBlock] at h⟩, BB2, ⟨fun g h => by simp [Value.ownBlock] at h⟩⟩
 case round =>
  clear HB2 BB2
  obtain ⟨k, vn, vl, hk, rfl, H, O1, O2, AP, B, GE⟩ := hrel
  by_cases hkn : k < n
  ·have hkn' : (k : Int) < n := by omega
   obtain ⟨iu, hi, hz0, hz1, hz2⟩ := info_parts info_str
   have c0 : wr.cell? ⟨d, 0, none⟩ = some vn := H.out.cell 0
   have hDw : d ≤ wr.heap.size := Nat.le_of_lt H.out.lt
   have hk1 : k + 1 ≤ 8192 := by omega
   go_upto_region 9 with ((with_reducible refine sel 29 ?_); refine wpList_append_own_at _ rfl (.tmp 26) (.tmp 28) 47 rfl 0 9 iu (.string .empty) 1 16 Tryz.underlying47 hi hz0 hz1 hz2 rfl (by omega) vn k _ rfl (O1.out.alloc _) ⟨wr.heap.size, 0, none⟩ 1 1 [.string Z] rfl rfl (cell_one_new _ _ _) (by simp [Value.oneCell']) (by unfold maxLen; omega) (by omega) (by omega) ?_; intro v1 w1 o1 g1 _ a1; obtain ⟨A1, c1, rfl⟩ := own_shape o1; have ST := grow_one (idx := 0) H O1 O2 AP (by decide) B GE (Nat.le_refl _) hDw g1 o1 a1; have t1 := ST.1.1.out; have t2 := ST.1.2.out; rw [show (#[vn, vl, Value.slice none 0 0, Value.int IntKind.i64 (-1), Value.bool false] : Array Value)[0]? = some vn from rfl] at t1; have ST := Kept.mk ST.2; clear o1 g1 a1)
   clear t1 t2
   obtain ⟨H', O1', O2', AP', B', GE'⟩ := ST.out
   clear ST H O1 O2 AP B GE c0 hDw
   generalize w1.setCell ⟨d, 0, none⟩ (.slice A1 (k + 1) c1) = w3 at *
   rw [← List.replicate_succ'] at O1'
   replace H' : Kept (Blk w3 d 50 #[.slice A1 (k + 1) c1, vl, .slice none 0 0, .int .i64 (-1), .bool false]) := H'
   have c1' : w3.cell? ⟨d, 1, none⟩ = some vl := H'.out.cell 1
   have hDw : d ≤ w3.heap.size := Nat.le_of_lt H'.out.lt
   have AP2 : Kept (Apart vl (.slice A1 (k + 1) c1)) := ⟨fun g h1 h2 => AP'.out g h2 h1⟩
   have GE2 : Kept (∀ g ∈ vl.ownBlock.toList ++ (Value.slice A1 (k + 1) c1).ownBlock.toList, d ≤ g) := ⟨fun g hg => GE'.out g (by rw [List.mem_append] at hg ⊢; exact hg.symm)⟩
   clear AP' GE'
   go_wp2_with ((with_reducible refine sel 39 ?_); refine wpList_append_own_at _ rfl (.tmp 36) (.tmp 38) 47 rfl 0 9 iu (.string .empty) 1 16 Tryz.underlying47 hi hz0 hz1 hz2 rfl (by omega) vl k _ rfl (O2'.out.alloc _) ⟨w3.heap.size, 0, none⟩ 1 1 [.string Z] rfl rfl (cell_one_new _ _ _) (by simp [Value.oneCell']) (by unfold maxLen; omega) (by omega) (by omega) ?_; intro v5 w5 o5 g5 _ a5; obtain ⟨A5, c5, rfl⟩ := own_shape o5; have ST := grow_one (idx := 1) H' O2' O1' AP2 (by decide) B' GE2 (Nat.le_refl _) hDw g5 o5 a5; have t1 := ST.1.1.out; have t2 := ST.1.2.out; rw [show (#[.slice A1 (k + 1) c1, vl, Value.slice none 0 0, Value.int IntKind.i64 (-1), Value.bool false] : Array Value)[1]? = some vl from rfl] at t1; have ST := Kept.mk ST.2; clear o5 g5 a5)
   obtain ⟨H6, O6, O7, AP6, B6, GE6⟩ := ST.out
   rw [← List.replicate_succ'] at O6
   go_roundw
   case rel => exact ⟨k + 1, .slice A1 (k + 1) c1, .slice A5 (k + 1) c5, by omega, by go_num, H6, O7, O6, ⟨fun g h1 h2 => AP6.out g h2 h1⟩, B6, ⟨fun g hg => GE6.out g (by rw [List.mem_append] at hg ⊢; exact hg.symm)⟩⟩
   case measure => simp [intOf]; omega
  ·have hkn' : ¬ (k : Int) < n := by omega
   obtain rfl : k = n := by omega
   have e1 : ∀ m, List.replicate m (Value.string Z) = strs (List.replicate m zeros64) := fun m => by rw [← HZ.out]; simp [strs]
   rw [e1] at O1 O2
   obtain ⟨l1, gn, cn, rfl, hcn, S1⟩ := strs_of_own O1.out h1
   obtain ⟨l2, gl, cl, rfl, hcl, S2⟩ := strs_of_own O2.out h1
   have P1 : Kept (RNewPost w k (.returned (.tuple #[.pointer (some ⟨d, 0, none⟩), .int .i64 0])) wr) := by
    refine ⟨d, d :: gn :: gl :: [], rfl, ⟨wf_new k h1 h2, gn, cn, gl, cl, .slice none 0 0, H.out, S1, S2, fun e => AP.out gn (by simp [Value.ownBlock]) (by simp [Value.ownBlock, e]), World.ownsRow_nil _ _ _ _, rfl⟩, (barOf (by rw [HD.out]; exact B.out) _), fun x hx => .inr ?_⟩
    have := GE.out gn (by simp [Value.ownBlock])
    have := GE.out gl (by simp [Value.ownBlock])
    have := HD.out
    simp at hx
    omega
   go_wp2
   go_ret2
   exact P1.out
end Go.Proofs.YtkbehjdglgpgjaaGreat.Disk

namespace Go.Proofs.YtkbehjdglgpgjaaGreat.Disk
open Go.RowKit Go.Proofs.YtkbehjdglgpgjaaGreat.Sha

def Drm (w : World) (F : List Nat) (d n : Nat) (s : DS) : Prop := ∃ gn cn gl cl vp, Blk w d 50 #[.slice (some ⟨gn, 0, none⟩) n cn, .slice (some ⟨gl, 0, none⟩) n cl, vp, .int .i64 s.fuse, .bool s.down] ∧
 Strs w gn s.now ∧ Strs w gl s.last ∧ gn ≠ gl ∧ w.ownsRow 0 3 1 vp s.pend.length (pints s.pend) ∧ F = d :: gn :: gl :: vp.ownBlock.toList
theorem Dr.mem {w : World} {F : List Nat} {d n : Nat} {s : DS} (h : Dr w F d n s) : Drm w F d n s := h.2
theorem pend_cell {w : World} {A : Option Addr} {c : Nat} {l : List Nat} (h : w.ownsRow 0 3 1 (.slice A l.length c) l.length (pints l)) (k : Nat) (hk : k < l.length) : ∃ g, A = some ⟨g, 0, none⟩ ∧ w.cell? ⟨g, k, none⟩ = some (.int .i64 (l.getD k 0 : Nat)) := by
 have h0 := h
 rcases h.2 with ⟨_, h1⟩ | ⟨g, cap, cur, hv, -, -, h1, -⟩
 ·omega
 ·injection hv with hA hl hc
  subst hA hc
  refine ⟨g, rfl, ?_⟩
  rw [World.ownsRow.cellAt h0 k (by omega)]
  simp [pints, hk]
def nums (l : List Nat) : List Int := l.map fun (i : Nat) => (i : Int)
theorem pints_nums (l : List Nat) : pints l = ints .i64 (nums l) := by simp [pints, ints, nums]
theorem dirty_fin {w wz : World} {d n N gn cn gl cl : Nat} {vp v' : Value} {s : DS} {q : List Nat} (hN : w.heap.size = N) (h1 : Blk w d 50 #[.slice (some ⟨gn, 0, none⟩) n cn, .slice (some ⟨gl, 0, none⟩) n cl, vp, .int .i64 s.fuse, .bool s.down])
  (h2 : Strs w gn s.now) (h3 : Strs w gl s.last) (h4 : gn ≠ gl) (b : Below N w wz) (o : wz.ownsRow N 3 1 v' q.length (pints q)) :
  Drm (wz.setCell ⟨d, 2, none⟩ v') (d :: gn :: gl :: v'.ownBlock.toList) d n { s with pend := q } ∧ Fp (d :: gn :: gl :: vp.ownBlock.toList) (d :: gn :: gl :: v'.ownBlock.toList) w (wz.setCell ⟨d, 2, none⟩ v') := by
 subst hN
 have k1 := h1.below b h1.lt
 have hb : Bar [d] w (wz.setCell ⟨d, 2, none⟩ v') := (barOf b [d]).setCell (by simp) _
 have hdn := blk_ne h1 h2.choose_spec.1 (by decide)
 have hdl := blk_ne h1 h3.choose_spec.1 (by decide)
 have hdo := own_far o k1 (by decide)
 refine ⟨⟨gn, cn, gl, cl, v', k1.set_ 2 v', h2.bar hb (by simpa using hdn.symm), h3.bar hb (by simpa using hdl.symm), h4, own_base (own_keep o ((Bar.refl [d] wz).setCell (by simp) _) (fun g hg => by simp at hg ⊢; rintro rfl; exact hdo hg)), rfl⟩, hb.mono (by simp), fun k hk => ?_⟩
 simp only [List.mem_cons] at hk ⊢
 rcases hk with rfl | rfl | rfl | hk
 ·exact .inl (.inl rfl)
 ·exact .inl (.inr (.inl rfl))
 ·exact .inl (.inr (.inr (.inl rfl)))
 ·exact .inr (o.lt k (by simpa using hk)).1
set_option maxRecDepth 100000 in
set_option maxHeartbeats 1000000 in
theorem rdirty_any (w : World) (F : List Nat) (d n : Nat) (s : DS) (i : Nat) (h : Drm w F d n s) (hl : s.pend.length ≤ 8192) :
  Calls Tryz.prog 48 #[.pointer (some ⟨d, 0, none⟩), .int .i64 i] w fun e w' => e = .returned (.tuple #[]) ∧ ∃ F', Drm w' F' d n { s with pend := ins i s.pend } ∧ Fp F F' w w' := by
 have HH := Kept.mk h
 obtain ⟨gn, cn, gl, cl, vp, h1, h2, h3, h4, h5, rfl⟩ := h
 obtain ⟨A, cap, rfl⟩ := own_shape h5
 have c2 : w.cell? ⟨d, 2, none⟩ = some (.slice A s.pend.length cap) := h1.cell 2
 obtain ⟨p, hp⟩ : ∃ p, s.pend = p := ⟨_, rfl⟩
 rw [hp] at h5 c2 hl
 have H1 := Kept.mk h1; have H2 := Kept.mk h2; have H3 := Kept.mk h3; have H4 := Kept.mk h4; have H5 := Kept.mk h5; have HP := Kept.mk hp
 clear h1 h2 h3 h4 h5 hp
 go_enter Tryz.func48, Tryz.ntmps48
 go_wp2
 go_loop [4] (fun j => ∃ k : Nat, k ≤ p.length ∧ j = .int .i64 k ∧ Kept (∀ j, j < k → p.getD j 0 < i)) (fun j => p.length - (intOf j).toNat)
 case atStart => exact ⟨0, by omega, rfl, ⟨fun j hj => by omega⟩⟩
 case round =>
  obtain ⟨k, hk, rfl, HK⟩ := hrel
  by_cases hkl : k < p.length
  ·have hkl' : (k : Int) < p.length := by omega
   obtain ⟨g, rfl, xk⟩ := pend_cell H5.out k hkl
   by_cases hlt : p.getD k 0 < i
   ·have hlt' : ((p.getD k 0 : Nat) : Int) < i := by omega
    have HK2 : Kept (∀ j, j < k + 1 → p.getD j 0 < i) := ⟨fun j hj => by
     by_cases hjk : j = k
     ·subst hjk; exact hlt
     ·exact HK.out j (by omega)⟩
    generalize p.getD k 0 = y at *
    go_wp2
    go_round
    case rel => exact ⟨k + 1, by omega, by go_num, HK2⟩
    case measure => simp [intOf]; omega
   ·have hlt' : ¬ ((p.getD k 0 : Nat) : Int) < i := by omega
    have HI := Kept.mk (ins_split i p k hk HK.out (fun _ => hlt))
    by_cases he : p.getD k 0 = i
    ·rw [if_pos ⟨hkl, he⟩] at HI
     rw [he] at xk
     have P1 : Kept (Drm w (d :: gn :: gl :: (Value.slice (some ⟨g, 0, none⟩) s.pend.length cap).ownBlock.toList) d n { s with pend := ins i s.pend }) := ⟨by
      have e1 : ({ s with pend := ins i s.pend } : DS) = s := by rw [HP.out, HI.out, ← HP.out]
      rw [e1]; exact HH.out⟩
     clear HI he hlt hlt' HK
     go_wp2
     first | go_end0 | (simp only [Exit.inBlock, Exit.then]; refine bodyPost_ret (results_none rfl _ _ _) rfl ?_) | refine bodyPost_ret (results_none rfl _ _ _) rfl ?_
     exact ⟨rfl, _, P1.out, Fp.refl _ _⟩
    ·rw [if_neg (fun hc => he hc.2)] at HI
     have he' : ¬ ((p.getD k 0 : Nat) : Int) = i := by omega
     generalize p.getD k 0 = y at *
     go_wp2
     obtain ⟨hcap, hcap2, rp⟩ := own_ri (pints_nums p ▸ H5.out)
     obtain ⟨A1, hs1, r1⟩ := islice_h rp hcap k hk k rfl
     obtain ⟨A2, hs2, r2⟩ := islice_l rp hcap k hk k rfl
     obtain ⟨N, hN⟩ : ∃ N, w.heap.size = N := ⟨_, rfl⟩
     have HN := Kept.mk hN
     have CS : ∀ wx, Kept (Below N w wx) → wx.cell? ⟨d, 2, none⟩ = some (.slice (some ⟨g, 0, none⟩) p.length cap) := fun wx B => by
      rw [B.out.cell (by rw [← HN.out]; exact H1.out.lt)]; exact c2
     have NB : ∀ wx, Kept (Below N w wx) → N ≤ wx.heap.size := fun wx B => by rw [← HN.out]; exact B.out.size
     have RR1 := Kept.mk fun wx (B : Kept (Below N w wx)) => r1.below (by rw [HN.out]; exact B.out)
     have RR2 := Kept.mk fun wx (B : Kept (Below N w wx)) => r2.below (by rw [HN.out]; exact B.out)
     have EQ : Kept (∀ (v : Value) (wx : World), wx.ownsRow N 3 1 v (k + 1 + (p.length - k)) ([] ++ ints .i64 ((nums p).take k) ++ ints .i64 [(i : Int)] ++ ints .i64 ((nums p).drop k)) → wx.ownsRow N 3 1 v (ins i p).length (pints (ins i p))) := ⟨fun v wx o => by
      have e1 : [] ++ ints .i64 ((nums p).take k) ++ ints .i64 [(i : Int)] ++ ints .i64 ((nums p).drop k) = pints (ins i p) := by
       rw [HI.out]; simp [pints_nums, ints, nums, List.map_take, List.map_drop]
      have e2 : k + 1 + (p.length - k) = (ins i p).length := by
       rw [HI.out]; simp; omega
      rw [e1, e2] at o
      exact o⟩
     clear HK r1 r2 rp hN
     have B0 : Kept (Below N w w.drew) := ⟨(Below.refl N w).drew⟩
     refine wp_region_noPanic ?_
     refine wp_region_U 21 (S := fun w' : World => w'.cell? ⟨d, 2, none⟩ = some (.slice (some ⟨g, 0, none⟩) p.length cap)) (by kernel_rfl) (CS _ B0) (fun _ => ?_)
     generalize w.drew = wd at *
     refine wpAnyU_take (i := 0) (oi := ?o248) (v := ?v248) ?hi248 (by kernel_rfl) (by kernel_rfl) (by kernel_rfl) (by kernel_rfl) ?hq248 (Or.inl ⟨?hw248, ?hy248⟩) (by assumption) ?r248
     case hi248 => (simp only [List.getElem?_toArray, List.getElem?_cons_zero]; exact rfl)
     case hq248 => exact fun _ _ _ h => h
     case hw248 => rfl
     case hy248 => (intro w hSw; (try dsimp only at hSw); go_simp; try exact rfl)
     simp only [Act.put, List.setIfInBounds_toArray, List.set_cons_zero, List.set_cons_succ]
     refine wpAnyU_take (i := 2) (oi := ?o249) (v := ?v249) ?hi249 (by kernel_rfl) (by kernel_rfl) (by kernel_rfl) (by kernel_rfl) ?hq249 (Or.inl ⟨?hw249, ?hy249⟩) (by assumption) ?r249
     case hi249 => (simp only [List.getElem?_toArray, List.getElem?_cons_succ, List.getElem?_cons_zero]; exact rfl)
     case hq249 => exact fun _ _ _ h => h
     case hw249 => rfl
     case hy249 => (intro w hSw; (try dsimp only at hSw); go_simp; try exact rfl)
     simp only [Act.put, List.setIfInBounds_toArray, List.set_cons_zero, List.set_cons_succ]
     refine wpAnyU_take (i := 3) (oi := ?o250) (v := ?v250) ?hi250 (by kernel_rfl) (by kernel_rfl) (by kernel_rfl) (by kernel_rfl) ?hq250 (Or.inl ⟨?hw250, ?hy250⟩) (by assumption) ?r250
     case hi250 => (simp only [List.getElem?_toArray, List.getElem?_cons_succ, List.getElem?_cons_zero]; exact rfl)
     case hq250 => exact fun _ _ _ h => h
     case hw250 => rfl
     case hy250 => (intro w hSw; (try dsimp only at hSw); go_simp; try exact rfl)
     simp only [Act.put, List.setIfInBounds_toArray, List.set_cons_zero, List.set_cons_succ]
     refine wpAnyU_take (i := 4) (oi := ?o251) (v := ?v251) ?hi251 (by kernel_rfl) (by kernel_rfl) (by kernel_rfl) (by kernel_rfl) ?hq251 (Or.inl ⟨?hw251, ?hy251⟩) (by assumption) ?r251
     case hi251 => (simp only [List.getElem?_toArray, List.getElem?_cons_succ, List.getElem?_cons_zero]; exact rfl)
     case hq251 => exact fun _ _ _ h => h
     case hw251 => rfl
     case hy251 => (intro w hSw; (try dsimp only at hSw); go_simp; try exact rfl)
     simp only [Act.put, List.setIfInBounds_toArray, List.set_cons_zero, List.set_cons_succ]
     refine wpAnyU_take (i := 5) (oi := ?o252) (v := ?v252) ?hi252 (by kernel_rfl) (by kernel_rfl) (by kernel_rfl) (by kernel_rfl) ?hq252 (Or.inl ⟨?hw252, ?hy252⟩) (by assumption) ?r252
     case hi252 => (simp only [List.getElem?_toArray, List.getElem?_cons_succ, List.getElem?_cons_zero]; exact rfl)
     case hq252 => exact fun _ _ _ h => h
     case hw252 => rfl
     case hy252 => (intro w hSw; (try dsimp only at hSw); go_simp; try exact rfl)
     simp only [Act.put, List.setIfInBounds_toArray, List.set_cons_zero, List.set_cons_succ]
     refine wpAnyU_take (i := 6) (oi := ?o253) (v := ?v253) ?hi253 (by kernel_rfl) (by kernel_rfl) (by kernel_rfl) (by kernel_rfl) ?hq253 (Or.inl ⟨?hw253, ?hy253⟩) (by assumption) ?r253
     case hi253 => (simp only [List.getElem?_toArray, List.getElem?_cons_succ, List.getElem?_cons_zero]; exact rfl)
     case hq253 => exact fun _ _ _ h => h
     case hw253 => rfl
     case hy253 => (intro w hSw; (try dsimp only at hSw); go_simp; try exact rfl)
     simp only [Act.put, List.setIfInBounds_toArray, List.set_cons_zero, List.set_cons_succ]
     refine wpAnyU_take (i := 7) (oi := ?o254) (v := ?v254) ?hi254 (by kernel_rfl) (by kernel_rfl) (by kernel_rfl) (by kernel_rfl) ?hq254 (Or.inl ⟨?hw254, ?hy254⟩) (by assumption) ?r254
     case hi254 => (simp only [List.getElem?_toArray, List.getElem?_cons_succ, List.getElem?_cons_zero]; exact rfl)
     case hq254 => exact fun _ _ _ h => h
     case hw254 => rfl
     case hy254 => (intro w hSw; (try dsimp only at hSw); go_simp; try exact rfl)
     simp only [Act.put, List.setIfInBounds_toArray, List.set_cons_zero, List.set_cons_succ]
     refine wpAnyU_take (i := 9) (oi := ?o255) (v := ?v255) ?hi255 (by kernel_rfl) (by kernel_rfl) (by kernel_rfl) (by kernel_rfl) ?hq255 (Or.inl ⟨?hw255, ?hy255⟩) (by assumption) ?r255
     case hi255 => (simp only [List.getElem?_toArray, List.getElem?_cons_succ, List.getElem?_cons_zero]; exact rfl)
     case hq255 => exact fun _ _ _ h => h
     case hw255 => rfl
     case hy255 => (intro w hSw; (try dsimp only at hSw); go_simp; try exact rfl)
     simp only [Act.put, List.setIfInBounds_toArray, List.set_cons_zero, List.set_cons_succ]
     refine wpAnyU_take (i := 12) (oi := ?o256) (v := ?v256) ?hi256 (by kernel_rfl) (by kernel_rfl) (by kernel_rfl) (by kernel_rfl) ?hq256 (Or.inl ⟨?hw256, ?hy256⟩) (by assumption) ?r256
     case hi256 => (simp only [List.getElem?_toArray, List.getElem?_cons_succ, List.getElem?_cons_zero]; exact rfl)
     case hq256 => exact fun _ _ _ h => h
     case hw256 => rfl
     case hy256 => (intro w hSw; (try dsimp only at hSw); go_simp; try exact rfl)
     simp only [Act.put, List.setIfInBounds_toArray, List.set_cons_zero, List.set_cons_succ]
     refine wpAnyU_take (i := 13) (oi := ?o257) (v := ?v257) ?hi257 (by kernel_rfl) (by kernel_rfl) (by kernel_rfl) (by kernel_rfl) ?hq257 (Or.inl ⟨?hw257, ?hy257⟩) (by assumption) ?r257
     case hi257 => (simp only [List.getElem?_toArray, List.getElem?_cons_succ, List.getElem?_cons_zero]; exact rfl)
     case hq257 => exact fun _ _ _ h => h
     case hw257 => rfl
     case hy257 => (intro w hSw; (try dsimp only at hSw); go_simp; try exact rfl)
     simp only [Act.put, List.setIfInBounds_toArray, List.set_cons_zero, List.set_cons_succ]
     refine wpAnyU_take (i := 14) (oi := ?o258) (v := ?v258) ?hi258 (by kernel_rfl) (by kernel_rfl) (by kernel_rfl) (by kernel_rfl) ?hq258 (Or.inl ⟨?hw258, ?hy258⟩) (by assumption) ?r258
     case hi258 => (simp only [List.getElem?_toArray, List.getElem?_cons_succ, List.getElem?_cons_zero]; exact rfl)
     case hq258 => exact fun _ _ _ h => h
     case hw258 => rfl
     case hy258 => (intro w hSw; (try dsimp only at hSw); go_simp; try exact rfl)
     simp only [Act.put, List.setIfInBounds_toArray, List.set_cons_zero, List.set_cons_succ]
     refine wpAnyU_take (i := 15) (oi := ?o259) (v := ?v259) ?hi259 (by kernel_rfl) (by kernel_rfl) (by kernel_rfl) (by kernel_rfl) ?hq259 (Or.inl ⟨?hw259, ?hy259⟩) (by assumption) ?r259
     case hi259 => (simp only [List.getElem?_toArray, List.getElem?_cons_succ, List.getElem?_cons_zero]; exact rfl)
     case hq259 => exact fun _ _ _ h => h
     case hw259 => rfl
     case hy259 => (intro w hSw; (try dsimp only at hSw); go_simp; try exact rfl)
     simp only [Act.put, List.setIfInBounds_toArray, List.set_cons_zero, List.set_cons_succ]
     refine wpAnyU_take (i := 16) (oi := ?o260) (v := ?v260) ?hi260 (by kernel_rfl) (by kernel_rfl) (by kernel_rfl) (by kernel_rfl) ?hq260 (Or.inl ⟨?hw260, ?hy260⟩) (by assumption) ?r260
     case hi260 => (simp only [List.getElem?_toArray, List.getElem?_cons_succ, List.getElem?_cons_zero]; exact rfl)
     case hq260 => exact fun _ _ _ h => h
     case hw260 => rfl
     case hy260 => (intro w hSw; (try dsimp only at hSw); go_simp; try exact rfl)
     simp only [Act.put, List.setIfInBounds_toArray, List.set_cons_zero, List.set_cons_succ]
     refine wpAnyU_take (i := 17) (oi := ?o261) (v := ?v261) ?hi261 (by kernel_rfl) (by kernel_rfl) (by kernel_rfl) (by kernel_rfl) ?hq261 (Or.inl ⟨?hw261, ?hy261⟩) (by assumption) ?r261
     case hi261 => (simp only [List.getElem?_toArray, List.getElem?_cons_succ, List.getElem?_cons_zero]; exact rfl)
     case hq261 => exact fun _ _ _ h => h
     case hw261 => rfl
     case hy261 => (intro w hSw; (try dsimp only at hSw); go_simp; try exact rfl)
     simp only [Act.put, List.setIfInBounds_toArray, List.set_cons_zero, List.set_cons_succ]
     refine wpAnyU_ready (rs := [1, 10]) (by kernel_rfl) (by simp) ?_
     refine AllReadyU.cons (o := ?o314) ?hi314 (fun K hK => ?_) (AllReadyU.cons (o := ?o315) ?hi315 (fun K hK => ?_) AllReadyU.nil)
     case hi314 => (simp only [List.getElem?_toArray, List.getElem?_cons_succ, List.getElem?_cons_zero]; exact rfl)
     case hi315 => (simp only [List.getElem?_toArray, List.getElem?_cons_succ, List.getElem?_cons_zero]; exact rfl)
     ·go_simp
      have O0 := Kept.mk (World.ownsRow_made (base := N) (e := 3) (size := 1) wd #[] 0 (NB _ B0) (by unfold maxLen; omega) rfl)
      have B1 : Kept (Below N w (wd.alloc (.cells #[] 3))) := ⟨B0.out.alloc (NB _ B0) _⟩
      have hv : (Value.slice (some ⟨wd.heap.size, 0, none⟩) 0 0).ownBlock = some wd.heap.size := rfl
      have hlt1 : wd.heap.size < (wd.alloc (.cells #[] 3)).heap.size := by simp
      refine hK.out _ _ (fun _ => CS _ B1) (fun _ => ?_)
      clear hK K
      try simp only [Act.put, List.setIfInBounds_toArray, List.set_cons_zero, List.set_cons_succ]
      generalize wd.alloc (.cells #[] 3) = w1 at *
      generalize wd.heap.size = g0 at *
      refine wpAnyU_ready (rs := [8, 10]) (by kernel_rfl) (by simp) ?_
      refine AllReadyU.cons (o := ?o316) ?hi316 (fun K hK => ?_) (AllReadyU.cons (o := ?o317) ?hi317 (fun K hK => ?_) AllReadyU.nil)
      case hi316 => (simp only [List.getElem?_toArray, List.getElem?_cons_succ, List.getElem?_cons_zero]; exact rfl)
      case hi317 => (simp only [List.getElem?_toArray, List.getElem?_cons_succ, List.getElem?_cons_zero]; exact rfl)
      ·refine step_append_ri rfl (.tmp 44) (.tmp 50) 48 (by rfl) N 3 Tryz.underlying48 info_int _ _ _ (by rfl) O0.out A1 k cap _ (by rfl) (RR1.out _ B1) (by omega) (NB _ B1) ?_
       intro v8 w8 o8 g8 b8 a8
       have B8 : Kept (Below N w w8) := ⟨B1.out.trans b8⟩
       refine hK.out _ _ (fun _ => CS _ B8) (fun _ => ?_)
       clear hK K
       try simp only [Act.put, List.setIfInBounds_toArray, List.set_cons_zero, List.set_cons_succ]
       refine wpAnyU_ready (rs := [10]) (by kernel_rfl) (by simp) ?_
       refine AllReadyU.cons (o := ?o276) ?hi276 (fun K hK => ?_) AllReadyU.nil
       case hi276 => (simp only [List.getElem?_toArray, List.getElem?_cons_succ, List.getElem?_cons_zero]; exact rfl)
       go_simp
       have RB := Kept.mk (Blk.new w8 3 #[.int .i64 (i : Int)])
       have O8 := Kept.mk (o8.out.alloc (.cells #[.int .i64 (i : Int)] 3))
       have B9 : Kept (Below N w (w8.alloc (.cells #[.int .i64 (i : Int)] 3))) := ⟨B8.out.alloc (NB _ B8) _⟩
       refine hK.out _ _ (fun _ => CS _ B9) (fun _ => ?_)
       clear hK K
       try simp only [Act.put, List.setIfInBounds_toArray, List.set_cons_zero, List.set_cons_succ]
       generalize w8.heap.size = gB at *
       refine wpAnyU_ready (rs := [11]) (by kernel_rfl) (by simp) ?_
       refine AllReadyU.cons (o := ?o298) ?hi298 (fun K hK => ?_) AllReadyU.nil
       case hi298 => (simp only [List.getElem?_toArray, List.getElem?_cons_succ, List.getElem?_cons_zero]; exact rfl)
       refine step_append_ri rfl (.tmp 51) (.tmp 53) 48 (by rfl) N 3 Tryz.underlying48 info_int _ _ _ (by rfl) O8.out (some ⟨gB, 0, none⟩) 1 1 _ (by rfl) (Ri.blk (xs := [(i : Int)]) RB.out rfl) (by omega) (NB _ B9) ?_
       intro v11 w11 o11 g11 b11 a11
       have B11 : Kept (Below N w w11) := ⟨B9.out.trans b11⟩
       refine hK.out _ _ (fun _ => CS _ B11) (fun _ => ?_)
       clear hK K
       try simp only [Act.put, List.setIfInBounds_toArray, List.set_cons_zero, List.set_cons_succ]
       refine wpAnyU_ready (rs := [18]) (by kernel_rfl) (by simp) ?_
       refine AllReadyU.cons (o := ?o299) ?hi299 (fun K hK => ?_) AllReadyU.nil
       case hi299 => (simp only [List.getElem?_toArray, List.getElem?_cons_succ, List.getElem?_cons_zero]; exact rfl)
       refine step_append_ri rfl (.tmp 54) (.tmp 60) 48 (by rfl) N 3 Tryz.underlying48 info_int _ _ _ (by rfl) o11.out A2 (p.length - k) (cap - k) _ (by rfl) (RR2.out _ B11) (by omega) (NB _ B11) ?_
       intro v18 w18 o18 g18 b18 a18
       have B18 : Kept (Below N w w18) := ⟨B11.out.trans b18⟩
       simp only [Nat.zero_add] at o18
       obtain ⟨A18, c18, rfl⟩ := own_shape o18.out
       refine hK.out _ _ (fun _ => CS _ B18) (fun _ => ?_)
       clear hK K
       try simp only [Act.put, List.setIfInBounds_toArray, List.set_cons_zero, List.set_cons_succ]
       refine wpAnyU_ready (rs := [19]) (by kernel_rfl) (by simp) ?_
       refine AllReadyU.cons (o := ?o277) ?hi277 (fun K hK => ?_) AllReadyU.nil
       case hi277 => (simp only [List.getElem?_toArray, List.getElem?_cons_succ, List.getElem?_cons_zero]; exact rfl)
       go_simp
       refine hK.out _ _ (fun _ => CS _ B18) (fun _ => ?_)
       clear hK K
       try simp only [Act.put, List.setIfInBounds_toArray, List.set_cons_zero, List.set_cons_succ]
       refine wpAnyU_ready (rs := [20]) (by kernel_rfl) (by simp) ?_
       refine AllReadyU.cons (o := ?o278) ?hi278 (fun K hK => ?_) AllReadyU.nil
       case hi278 => (simp only [List.getElem?_toArray, List.getElem?_cons_succ, List.getElem?_cons_zero]; exact rfl)
       go_simp
       refine hK.out _ _ (fun _ => CS _ B18) (fun _ => ?_)
       clear hK K
       try simp only [Act.put, List.setIfInBounds_toArray, List.set_cons_zero, List.set_cons_succ]
       have x2 := CS _ B18
       have z2 := (H1.out.below (HN.out ▸ B18.out) H1.out.lt).frozen 2
       refine wpAnyU_ready (rs := [21]) (by kernel_rfl) (by simp) ?_
       refine AllReadyU.cons (o := ?o279) ?hi279 (fun K hK => ?_) AllReadyU.nil
       case hi279 => (simp only [List.getElem?_toArray, List.getElem?_cons_succ, List.getElem?_cons_zero]; exact rfl)
       go_simp
       refine hK.out _ _ (fun h => absurd rfl h) (fun _ => ?_)
       clear hK K
       try simp only [Act.put, List.setIfInBounds_toArray, List.set_cons_zero, List.set_cons_succ]
       have FIN := dirty_fin (q := ins i p) HN.out H1.out H2.out H3.out H4.out B18.out (EQ.out _ _ o18.out)
       have FF := Kept.mk FIN
       clear FIN o18 o11 O8 x2 z2
       refine wpAnyU_done (by kernel_rfl) ?_ _
       refine NoPanic.normal ?_
       go_wp2
       go_end0
       rw [HP.out] at FF ⊢
       exact ⟨rfl, _, FF.out⟩
      ·go_simp
       have RB := Kept.mk (Blk.new w1 3 #[.int .i64 (i : Int)])
       have O1 := Kept.mk (O0.out.alloc (.cells #[.int .i64 (i : Int)] 3))
       have B9 : Kept (Below N w (w1.alloc (.cells #[.int .i64 (i : Int)] 3))) := ⟨B1.out.alloc (NB _ B1) _⟩
       have hne : some w1.heap.size ≠ (Value.slice (some ⟨g0, 0, none⟩) 0 0).ownBlock := by rw [hv]; intro he; injection he with he; omega
       refine hK.out _ _ (fun _ => CS _ B9) (fun _ => ?_)
       clear hK K
       try simp only [Act.put, List.setIfInBounds_toArray, List.set_cons_zero, List.set_cons_succ]
       generalize w1.alloc (.cells #[.int .i64 (i : Int)] 3) = w2 at *
       generalize w1.heap.size = gB at *
       refine wpAnyU_ready (rs := [8]) (by kernel_rfl) (by simp) ?_
       refine AllReadyU.cons (o := ?o300) ?hi300 (fun K hK => ?_) AllReadyU.nil
       case hi300 => (simp only [List.getElem?_toArray, List.getElem?_cons_succ, List.getElem?_cons_zero]; exact rfl)
       refine step_append_ri rfl (.tmp 44) (.tmp 50) 48 (by rfl) N 3 Tryz.underlying48 info_int _ _ _ (by rfl) O1.out A1 k cap _ (by rfl) (RR1.out _ B9) (by omega) (NB _ B9) ?_
       intro v8 w8 o8 g8 b8 a8
       have B8 : Kept (Below N w w8) := ⟨B9.out.trans b8⟩
       replace RB := Kept.mk (RB.out.grown g8 hne)
       refine hK.out _ _ (fun _ => CS _ B8) (fun _ => ?_)
       clear hK K
       try simp only [Act.put, List.setIfInBounds_toArray, List.set_cons_zero, List.set_cons_succ]
       have O8 := o8
       refine wpAnyU_ready (rs := [11]) (by kernel_rfl) (by simp) ?_
       refine AllReadyU.cons (o := ?o301) ?hi301 (fun K hK => ?_) AllReadyU.nil
       case hi301 => (simp only [List.getElem?_toArray, List.getElem?_cons_succ, List.getElem?_cons_zero]; exact rfl)
       refine step_append_ri rfl (.tmp 51) (.tmp 53) 48 (by rfl) N 3 Tryz.underlying48 info_int _ _ _ (by rfl) O8.out (some ⟨gB, 0, none⟩) 1 1 _ (by rfl) (Ri.blk (xs := [(i : Int)]) RB.out rfl) (by omega) (NB _ B8) ?_
       intro v11 w11 o11 g11 b11 a11
       have B11 : Kept (Below N w w11) := ⟨B8.out.trans b11⟩
       refine hK.out _ _ (fun _ => CS _ B11) (fun _ => ?_)
       clear hK K
       try simp only [Act.put, List.setIfInBounds_toArray, List.set_cons_zero, List.set_cons_succ]
       refine wpAnyU_ready (rs := [18]) (by kernel_rfl) (by simp) ?_
       refine AllReadyU.cons (o := ?o302) ?hi302 (fun K hK => ?_) AllReadyU.nil
       case hi302 => (simp only [List.getElem?_toArray, List.getElem?_cons_succ, List.getElem?_cons_zero]; exact rfl)
       refine step_append_ri rfl (.tmp 54) (.tmp 60) 48 (by rfl) N 3 Tryz.underlying48 info_int _ _ _ (by rfl) o11.out A2 (p.length - k) (cap - k) _ (by rfl) (RR2.out _ B11) (by omega) (NB _ B11) ?_
       intro v18 w18 o18 g18 b18 a18
       have B18 : Kept (Below N w w18) := ⟨B11.out.trans b18⟩
       simp only [Nat.zero_add] at o18
       obtain ⟨A18, c18, rfl⟩ := own_shape o18.out
       refine hK.out _ _ (fun _ => CS _ B18) (fun _ => ?_)
       clear hK K
       try simp only [Act.put, List.setIfInBounds_toArray, List.set_cons_zero, List.set_cons_succ]
       refine wpAnyU_ready (rs := [19]) (by kernel_rfl) (by simp) ?_
       refine AllReadyU.cons (o := ?o280) ?hi280 (fun K hK => ?_) AllReadyU.nil
       case hi280 => (simp only [List.getElem?_toArray, List.getElem?_cons_succ, List.getElem?_cons_zero]; exact rfl)
       go_simp
       refine hK.out _ _ (fun _ => CS _ B18) (fun _ => ?_)
       clear hK K
       try simp only [Act.put, List.setIfInBounds_toArray, List.set_cons_zero, List.set_cons_succ]
       refine wpAnyU_ready (rs := [20]) (by kernel_rfl) (by simp) ?_
       refine AllReadyU.cons (o := ?o281) ?hi281 (fun K hK => ?_) AllReadyU.nil
       case hi281 => (simp only [List.getElem?_toArray, List.getElem?_cons_succ, List.getElem?_cons_zero]; exact rfl)
       go_simp
       refine hK.out _ _ (fun _ => CS _ B18) (fun _ => ?_)
       clear hK K
       try simp only [Act.put, List.setIfInBounds_toArray, List.set_cons_zero, List.set_cons_succ]
       have x2 := CS _ B18
       have z2 := (H1.out.below (HN.out ▸ B18.out) H1.out.lt).frozen 2
       refine wpAnyU_ready (rs := [21]) (by kernel_rfl) (by simp) ?_
       refine AllReadyU.cons (o := ?o282) ?hi282 (fun K hK => ?_) AllReadyU.nil
       case hi282 => (simp only [List.getElem?_toArray, List.getElem?_cons_succ, List.getElem?_cons_zero]; exact rfl)
       go_simp
       refine hK.out _ _ (fun h => absurd rfl h) (fun _ => ?_)
       clear hK K
       try simp only [Act.put, List.setIfInBounds_toArray, List.set_cons_zero, List.set_cons_succ]
       have FIN := dirty_fin (q := ins i p) HN.out H1.out H2.out H3.out H4.out B18.out (EQ.out _ _ o18.out)
       have FF := Kept.mk FIN
       clear FIN o18 o11 O8 x2 z2
       refine wpAnyU_done (by kernel_rfl) ?_ _
       refine NoPanic.normal ?_
       go_wp2
       go_end0
       rw [HP.out] at FF ⊢
       exact ⟨rfl, _, FF.out⟩
     ·go_simp
      have RB := Kept.mk (Blk.new wd 3 #[.int .i64 (i : Int)])
      have B1 : Kept (Below N w (wd.alloc (.cells #[.int .i64 (i : Int)] 3))) := ⟨B0.out.alloc (NB _ B0) _⟩
      have hlt1 : wd.heap.size < (wd.alloc (.cells #[.int .i64 (i : Int)] 3)).heap.size := by simp
      refine hK.out _ _ (fun _ => CS _ B1) (fun _ => ?_)
      clear hK K
      try simp only [Act.put, List.setIfInBounds_toArray, List.set_cons_zero, List.set_cons_succ]
      generalize wd.alloc (.cells #[.int .i64 (i : Int)] 3) = w1 at *
      generalize wd.heap.size = gB at *
      refine wpAnyU_ready (rs := [1]) (by kernel_rfl) (by simp) ?_
      refine AllReadyU.cons (o := ?o283) ?hi283 (fun K hK => ?_) AllReadyU.nil
      case hi283 => (simp only [List.getElem?_toArray, List.getElem?_cons_succ, List.getElem?_cons_zero]; exact rfl)
      go_simp
      have O0 := Kept.mk (World.ownsRow_made (base := N) (e := 3) (size := 1) w1 #[] 0 (NB _ B1) (by unfold maxLen; omega) rfl)
      replace RB := Kept.mk (RB.out.alloc (.cells #[] 3))
      have B9 : Kept (Below N w (w1.alloc (.cells #[] 3))) := ⟨B1.out.alloc (NB _ B1) _⟩
      have hne : some gB ≠ (Value.slice (some ⟨w1.heap.size, 0, none⟩) 0 0).ownBlock := by simp [Value.ownBlock]; omega
      refine hK.out _ _ (fun _ => CS _ B9) (fun _ => ?_)
      clear hK K
      try simp only [Act.put, List.setIfInBounds_toArray, List.set_cons_zero, List.set_cons_succ]
      generalize w1.alloc (.cells #[] 3) = w2 at *
      generalize w1.heap.size = g0 at *
      refine wpAnyU_ready (rs := [8]) (by kernel_rfl) (by simp) ?_
      refine AllReadyU.cons (o := ?o303) ?hi303 (fun K hK => ?_) AllReadyU.nil
      case hi303 => (simp only [List.getElem?_toArray, List.getElem?_cons_succ, List.getElem?_cons_zero]; exact rfl)
      refine step_append_ri rfl (.tmp 44) (.tmp 50) 48 (by rfl) N 3 Tryz.underlying48 info_int _ _ _ (by rfl) O0.out A1 k cap _ (by rfl) (RR1.out _ B9) (by omega) (NB _ B9) ?_
      intro v8 w8 o8 g8 b8 a8
      have B8 : Kept (Below N w w8) := ⟨B9.out.trans b8⟩
      replace RB := Kept.mk (RB.out.grown g8 hne)
      refine hK.out _ _ (fun _ => CS _ B8) (fun _ => ?_)
      clear hK K
      try simp only [Act.put, List.setIfInBounds_toArray, List.set_cons_zero, List.set_cons_succ]
      have O8 := o8
      refine wpAnyU_ready (rs := [11]) (by kernel_rfl) (by simp) ?_
      refine AllReadyU.cons (o := ?o304) ?hi304 (fun K hK => ?_) AllReadyU.nil
      case hi304 => (simp only [List.getElem?_toArray, List.getElem?_cons_succ, List.getElem?_cons_zero]; exact rfl)
      refine step_append_ri rfl (.tmp 51) (.tmp 53) 48 (by rfl) N 3 Tryz.underlying48 info_int _ _ _ (by rfl) O8.out (some ⟨gB, 0, none⟩) 1 1 _ (by rfl) (Ri.blk (xs := [(i : Int)]) RB.out rfl) (by omega) (NB _ B8) ?_
      intro v11 w11 o11 g11 b11 a11
      have B11 : Kept (Below N w w11) := ⟨B8.out.trans b11⟩
      refine hK.out _ _ (fun _ => CS _ B11) (fun _ => ?_)
      clear hK K
      try simp only [Act.put, List.setIfInBounds_toArray, List.set_cons_zero, List.set_cons_succ]
      refine wpAnyU_ready (rs := [18]) (by kernel_rfl) (by simp) ?_
      refine AllReadyU.cons (o := ?o305) ?hi305 (fun K hK => ?_) AllReadyU.nil
      case hi305 => (simp only [List.getElem?_toArray, List.getElem?_cons_succ, List.getElem?_cons_zero]; exact rfl)
      refine step_append_ri rfl (.tmp 54) (.tmp 60) 48 (by rfl) N 3 Tryz.underlying48 info_int _ _ _ (by rfl) o11.out A2 (p.length - k) (cap - k) _ (by rfl) (RR2.out _ B11) (by omega) (NB _ B11) ?_
      intro v18 w18 o18 g18 b18 a18
      have B18 : Kept (Below N w w18) := ⟨B11.out.trans b18⟩
      simp only [Nat.zero_add] at o18
      obtain ⟨A18, c18, rfl⟩ := own_shape o18.out
      refine hK.out _ _ (fun _ => CS _ B18) (fun _ => ?_)
      clear hK K
      try simp only [Act.put, List.setIfInBounds_toArray, List.set_cons_zero, List.set_cons_succ]
      refine wpAnyU_ready (rs := [19]) (by kernel_rfl) (by simp) ?_
      refine AllReadyU.cons (o := ?o284) ?hi284 (fun K hK => ?_) AllReadyU.nil
      case hi284 => (simp only [List.getElem?_toArray, List.getElem?_cons_succ, List.getElem?_cons_zero]; exact rfl)
      go_simp
      refine hK.out _ _ (fun _ => CS _ B18) (fun _ => ?_)
      clear hK K
      try simp only [Act.put, List.setIfInBounds_toArray, List.set_cons_zero, List.set_cons_succ]
      refine wpAnyU_ready (rs := [20]) (by kernel_rfl) (by simp) ?_
      refine AllReadyU.cons (o := ?o285) ?hi285 (fun K hK => ?_) AllReadyU.nil
      case hi285 => (simp only [List.getElem?_toArray, List.getElem?_cons_succ, List.getElem?_cons_zero]; exact rfl)
      go_simp
      refine hK.out _ _ (fun _ => CS _ B18) (fun _ => ?_)
      clear hK K
      try simp only [Act.put, List.setIfInBounds_toArray, List.set_cons_zero, List.set_cons_succ]
      have x2 := CS _ B18
      have z2 := (H1.out.below (HN.out ▸ B18.out) H1.out.lt).frozen 2
      refine wpAnyU_ready (rs := [21]) (by kernel_rfl) (by simp) ?_
      refine AllReadyU.cons (o := ?o286) ?hi286 (fun K hK => ?_) AllReadyU.nil
      case hi286 => (simp only [List.getElem?_toArray, List.getElem?_cons_succ, List.getElem?_cons_zero]; exact rfl)
      go_simp
      refine hK.out _ _ (fun h => absurd rfl h) (fun _ => ?_)
      clear hK K
      try simp only [Act.put, List.setIfInBounds_toArray, List.set_cons_zero, List.set_cons_succ]
      have FIN := dirty_fin (q := ins i p) HN.out H1.out H2.out H3.out H4.out B18.out (EQ.out _ _ o18.out)
      have FF := Kept.mk FIN
      clear FIN o18 o11 O8 x2 z2
      refine wpAnyU_done (by kernel_rfl) ?_ _
      refine NoPanic.normal ?_
      go_wp2
      go_end0
      rw [HP.out] at FF ⊢
      exact ⟨rfl, _, FF.out⟩
  ·have hkl' : ¬ (k : Int) < p.length := by omega
   have HI := Kept.mk (ins_split i p k hk HK.out (fun hh => absurd hh hkl))
   rw [if_neg (fun hc => hkl hc.1)] at HI
   go_wp2
   obtain ⟨hcap, hcap2, rp⟩ := own_ri (pints_nums p ▸ H5.out)
   obtain ⟨A1, hs1, r1⟩ := islice_h rp hcap k hk k rfl
   obtain ⟨A2, hs2, r2⟩ := islice_l rp hcap k hk k rfl
   obtain ⟨N, hN⟩ : ∃ N, w.heap.size = N := ⟨_, rfl⟩
   have HN := Kept.mk hN
   have CS : ∀ wx, Kept (Below N w wx) → wx.cell? ⟨d, 2, none⟩ = some (.slice A p.length cap) := fun wx B => by
    rw [B.out.cell (by rw [← HN.out]; exact H1.out.lt)]; exact c2
   have NB : ∀ wx, Kept (Below N w wx) → N ≤ wx.heap.size := fun wx B => by rw [← HN.out]; exact B.out.size
   have RR1 := Kept.mk fun wx (B : Kept (Below N w wx)) => r1.below (by rw [HN.out]; exact B.out)
   have RR2 := Kept.mk fun wx (B : Kept (Below N w wx)) => r2.below (by rw [HN.out]; exact B.out)
   have EQ : Kept (∀ (v : Value) (wx : World), wx.ownsRow N 3 1 v (k + 1 + (p.length - k)) ([] ++ ints .i64 ((nums p).take k) ++ ints .i64 [(i : Int)] ++ ints .i64 ((nums p).drop k)) → wx.ownsRow N 3 1 v (ins i p).length (pints (ins i p))) := ⟨fun v wx o => by
    have e1 : [] ++ ints .i64 ((nums p).take k) ++ ints .i64 [(i : Int)] ++ ints .i64 ((nums p).drop k) = pints (ins i p) := by
     rw [HI.out]; simp [pints_nums, ints, nums, List.map_take, List.map_drop]
    have e2 : k + 1 + (p.length - k) = (ins i p).length := by
     rw [HI.out]; simp; omega
    rw [e1, e2] at o
    exact o⟩
   clear HK r1 r2 rp hN
   have B0 : Kept (Below N w w.drew) := ⟨(Below.refl N w).drew⟩
   refine wp_region_noPanic ?_
   refine wp_region_U 21 (S := fun w' : World => w'.cell? ⟨d, 2, none⟩ = some (.slice A p.length cap)) (by kernel_rfl) (CS _ B0) (fun _ => ?_)
   generalize w.drew = wd at *
   refine wpAnyU_take (i := 0) (oi := ?o262) (v := ?v262) ?hi262 (by kernel_rfl) (by kernel_rfl) (by kernel_rfl) (by kernel_rfl) ?hq262 (Or.inl ⟨?hw262, ?hy262⟩) (by assumption) ?r262
   case hi262 => (simp only [List.getElem?_toArray, List.getElem?_cons_zero]; exact rfl)
   case hq262 => exact fun _ _ _ h => h
   case hw262 => rfl
   case hy262 => (intro w hSw; (try dsimp only at hSw); go_simp; try exact rfl)
   simp only [Act.put, List.setIfInBounds_toArray, List.set_cons_zero, List.set_cons_succ]
   refine wpAnyU_take (i := 2) (oi := ?o263) (v := ?v263) ?hi263 (by kernel_rfl) (by kernel_rfl) (by kernel_rfl) (by kernel_rfl) ?hq263 (Or.inl ⟨?hw263, ?hy263⟩) (by assumption) ?r263
   case hi263 => (simp only [List.getElem?_toArray, List.getElem?_cons_succ, List.getElem?_cons_zero]; exact rfl)
   case hq263 => exact fun _ _ _ h => h
   case hw263 => rfl
   case hy263 => (intro w hSw; (try dsimp only at hSw); go_simp; try exact rfl)
   simp only [Act.put, List.setIfInBounds_toArray, List.set_cons_zero, List.set_cons_succ]
   refine wpAnyU_take (i := 3) (oi := ?o264) (v := ?v264) ?hi264 (by kernel_rfl) (by kernel_rfl) (by kernel_rfl) (by kernel_rfl) ?hq264 (Or.inl ⟨?hw264, ?hy264⟩) (by assumption) ?r264
   case hi264 => (simp only [List.getElem?_toArray, List.getElem?_cons_succ, List.getElem?_cons_zero]; exact rfl)
   case hq264 => exact fun _ _ _ h => h
   case hw264 => rfl
   case hy264 => (intro w hSw; (try dsimp only at hSw); go_simp; try exact rfl)
   simp only [Act.put, List.setIfInBounds_toArray, List.set_cons_zero, List.set_cons_succ]
   refine wpAnyU_take (i := 4) (oi := ?o265) (v := ?v265) ?hi265 (by kernel_rfl) (by kernel_rfl) (by kernel_rfl) (by kernel_rfl) ?hq265 (Or.inl ⟨?hw265, ?hy265⟩) (by assumption) ?r265
   case hi265 => (simp only [List.getElem?_toArray, List.getElem?_cons_succ, List.getElem?_cons_zero]; exact rfl)
   case hq265 => exact fun _ _ _ h => h
   case hw265 => rfl
   case hy265 => (intro w hSw; (try dsimp only at hSw); go_simp; try exact rfl)
   simp only [Act.put, List.setIfInBounds_toArray, List.set_cons_zero, List.set_cons_succ]
   refine wpAnyU_take (i := 5) (oi := ?o266) (v := ?v266) ?hi266 (by kernel_rfl) (by kernel_rfl) (by kernel_rfl) (by kernel_rfl) ?hq266 (Or.inl ⟨?hw266, ?hy266⟩) (by assumption) ?r266
   case hi266 => (simp only [List.getElem?_toArray, List.getElem?_cons_succ, List.getElem?_cons_zero]; exact rfl)
   case hq266 => exact fun _ _ _ h => h
   case hw266 => rfl
   case hy266 => (intro w hSw; (try dsimp only at hSw); go_simp; try exact rfl)
   simp only [Act.put, List.setIfInBounds_toArray, List.set_cons_zero, List.set_cons_succ]
   refine wpAnyU_take (i := 6) (oi := ?o267) (v := ?v267) ?hi267 (by kernel_rfl) (by kernel_rfl) (by kernel_rfl) (by kernel_rfl) ?hq267 (Or.inl ⟨?hw267, ?hy267⟩) (by assumption) ?r267
   case hi267 => (simp only [List.getElem?_toArray, List.getElem?_cons_succ, List.getElem?_cons_zero]; exact rfl)
   case hq267 => exact fun _ _ _ h => h
   case hw267 => rfl
   case hy267 => (intro w hSw; (try dsimp only at hSw); go_simp; try exact rfl)
   simp only [Act.put, List.setIfInBounds_toArray, List.set_cons_zero, List.set_cons_succ]
   refine wpAnyU_take (i := 7) (oi := ?o268) (v := ?v268) ?hi268 (by kernel_rfl) (by kernel_rfl) (by kernel_rfl) (by kernel_rfl) ?hq268 (Or.inl ⟨?hw268, ?hy268⟩) (by assumption) ?r268
   case hi268 => (simp only [List.getElem?_toArray, List.getElem?_cons_succ, List.getElem?_cons_zero]; exact rfl)
   case hq268 => exact fun _ _ _ h => h
   case hw268 => rfl
   case hy268 => (intro w hSw; (try dsimp only at hSw); go_simp; try exact rfl)
   simp only [Act.put, List.setIfInBounds_toArray, List.set_cons_zero, List.set_cons_succ]
   refine wpAnyU_take (i := 9) (oi := ?o269) (v := ?v269) ?hi269 (by kernel_rfl) (by kernel_rfl) (by kernel_rfl) (by kernel_rfl) ?hq269 (Or.inl ⟨?hw269, ?hy269⟩) (by assumption) ?r269
   case hi269 => (simp only [List.getElem?_toArray, List.getElem?_cons_succ, List.getElem?_cons_zero]; exact rfl)
   case hq269 => exact fun _ _ _ h => h
   case hw269 => rfl
   case hy269 => (intro w hSw; (try dsimp only at hSw); go_simp; try exact rfl)
   simp only [Act.put, List.setIfInBounds_toArray, List.set_cons_zero, List.set_cons_succ]
   refine wpAnyU_take (i := 12) (oi := ?o270) (v := ?v270) ?hi270 (by kernel_rfl) (by kernel_rfl) (by kernel_rfl) (by kernel_rfl) ?hq270 (Or.inl ⟨?hw270, ?hy270⟩) (by assumption) ?r270
   case hi270 => (simp only [List.getElem?_toArray, List.getElem?_cons_succ, List.getElem?_cons_zero]; exact rfl)
   case hq270 => exact fun _ _ _ h => h
   case hw270 => rfl
   case hy270 => (intro w hSw; (try dsimp only at hSw); go_simp; try exact rfl)
   simp only [Act.put, List.setIfInBounds_toArray, List.set_cons_zero, List.set_cons_succ]
   refine wpAnyU_take (i := 13) (oi := ?o271) (v := ?v271) ?hi271 (by kernel_rfl) (by kernel_rfl) (by kernel_rfl) (by kernel_rfl) ?hq271 (Or.inl ⟨?hw271, ?hy271⟩) (by assumption) ?r271
   case hi271 => (simp only [List.getElem?_toArray, List.getElem?_cons_succ, List.getElem?_cons_zero]; exact rfl)
   case hq271 => exact fun _ _ _ h => h
   case hw271 => rfl
   case hy271 => (intro w hSw; (try dsimp only at hSw); go_simp; try exact rfl)
   simp only [Act.put, List.setIfInBounds_toArray, List.set_cons_zero, List.set_cons_succ]
   refine wpAnyU_take (i := 14) (oi := ?o272) (v := ?v272) ?hi272 (by kernel_rfl) (by kernel_rfl) (by kernel_rfl) (by kernel_rfl) ?hq272 (Or.inl ⟨?hw272, ?hy272⟩) (by assumption) ?r272
   case hi272 => (simp only [List.getElem?_toArray, List.getElem?_cons_succ, List.getElem?_cons_zero]; exact rfl)
   case hq272 => exact fun _ _ _ h => h
   case hw272 => rfl
   case hy272 => (intro w hSw; (try dsimp only at hSw); go_simp; try exact rfl)
   simp only [Act.put, List.setIfInBounds_toArray, List.set_cons_zero, List.set_cons_succ]
   refine wpAnyU_take (i := 15) (oi := ?o273) (v := ?v273) ?hi273 (by kernel_rfl) (by kernel_rfl) (by kernel_rfl) (by kernel_rfl) ?hq273 (Or.inl ⟨?hw273, ?hy273⟩) (by assumption) ?r273
   case hi273 => (simp only [List.getElem?_toArray, List.getElem?_cons_succ, List.getElem?_cons_zero]; exact rfl)
   case hq273 => exact fun _ _ _ h => h
   case hw273 => rfl
   case hy273 => (intro w hSw; (try dsimp only at hSw); go_simp; try exact rfl)
   simp only [Act.put, List.setIfInBounds_toArray, List.set_cons_zero, List.set_cons_succ]
   refine wpAnyU_take (i := 16) (oi := ?o274) (v := ?v274) ?hi274 (by kernel_rfl) (by kernel_rfl) (by kernel_rfl) (by kernel_rfl) ?hq274 (Or.inl ⟨?hw274, ?hy274⟩) (by assumption) ?r274
   case hi274 => (simp only [List.getElem?_toArray, List.getElem?_cons_succ, List.getElem?_cons_zero]; exact rfl)
   case hq274 => exact fun _ _ _ h => h
   case hw274 => rfl
   case hy274 => (intro w hSw; (try dsimp only at hSw); go_simp; try exact rfl)
   simp only [Act.put, List.setIfInBounds_toArray, List.set_cons_zero, List.set_cons_succ]
   refine wpAnyU_take (i := 17) (oi := ?o275) (v := ?v275) ?hi275 (by kernel_rfl) (by kernel_rfl) (by kernel_rfl) (by kernel_rfl) ?hq275 (Or.inl ⟨?hw275, ?hy275⟩) (by assumption) ?r275
   case hi275 => (simp only [List.getElem?_toArray, List.getElem?_cons_succ, List.getElem?_cons_zero]; exact rfl)
   case hq275 => exact fun _ _ _ h => h
   case hw275 => rfl
   case hy275 => (intro w hSw; (try dsimp only at hSw); go_simp; try exact rfl)
   simp only [Act.put, List.setIfInBounds_toArray, List.set_cons_zero, List.set_cons_succ]
   refine wpAnyU_ready (rs := [1, 10]) (by kernel_rfl) (by simp) ?_
   refine AllReadyU.cons (o := ?o318) ?hi318 (fun K hK => ?_) (AllReadyU.cons (o := ?o319) ?hi319 (fun K hK => ?_) AllReadyU.nil)
   case hi318 => (simp only [List.getElem?_toArray, List.getElem?_cons_succ, List.getElem?_cons_zero]; exact rfl)
   case hi319 => (simp only [List.getElem?_toArray, List.getElem?_cons_succ, List.getElem?_cons_zero]; exact rfl)
   ·go_simp
    have O0 := Kept.mk (World.ownsRow_made (base := N) (e := 3) (size := 1) wd #[] 0 (NB _ B0) (by unfold maxLen; omega) rfl)
    have B1 : Kept (Below N w (wd.alloc (.cells #[] 3))) := ⟨B0.out.alloc (NB _ B0) _⟩
    have hv : (Value.slice (some ⟨wd.heap.size, 0, none⟩) 0 0).ownBlock = some wd.heap.size := rfl
    have hlt1 : wd.heap.size < (wd.alloc (.cells #[] 3)).heap.size := by simp
    refine hK.out _ _ (fun _ => CS _ B1) (fun _ => ?_)
    clear hK K
    try simp only [Act.put, List.setIfInBounds_toArray, List.set_cons_zero, List.set_cons_succ]
    generalize wd.alloc (.cells #[] 3) = w1 at *
    generalize wd.heap.size = g0 at *
    refine wpAnyU_ready (rs := [8, 10]) (by kernel_rfl) (by simp) ?_
    refine AllReadyU.cons (o := ?o320) ?hi320 (fun K hK => ?_) (AllReadyU.cons (o := ?o321) ?hi321 (fun K hK => ?_) AllReadyU.nil)
    case hi320 => (simp only [List.getElem?_toArray, List.getElem?_cons_succ, List.getElem?_cons_zero]; exact rfl)
    case hi321 => (simp only [List.getElem?_toArray, List.getElem?_cons_succ, List.getElem?_cons_zero]; exact rfl)
    ·refine step_append_ri rfl (.tmp 44) (.tmp 50) 48 (by rfl) N 3 Tryz.underlying48 info_int _ _ _ (by rfl) O0.out A1 k cap _ (by rfl) (RR1.out _ B1) (by omega) (NB _ B1) ?_
     intro v8 w8 o8 g8 b8 a8
     have B8 : Kept (Below N w w8) := ⟨B1.out.trans b8⟩
     refine hK.out _ _ (fun _ => CS _ B8) (fun _ => ?_)
     clear hK K
     try simp only [Act.put, List.setIfInBounds_toArray, List.set_cons_zero, List.set_cons_succ]
     refine wpAnyU_ready (rs := [10]) (by kernel_rfl) (by simp) ?_
     refine AllReadyU.cons (o := ?o287) ?hi287 (fun K hK => ?_) AllReadyU.nil
     case hi287 => (simp only [List.getElem?_toArray, List.getElem?_cons_succ, List.getElem?_cons_zero]; exact rfl)
     go_simp
     have RB := Kept.mk (Blk.new w8 3 #[.int .i64 (i : Int)])
     have O8 := Kept.mk (o8.out.alloc (.cells #[.int .i64 (i : Int)] 3))
     have B9 : Kept (Below N w (w8.alloc (.cells #[.int .i64 (i : Int)] 3))) := ⟨B8.out.alloc (NB _ B8) _⟩
     refine hK.out _ _ (fun _ => CS _ B9) (fun _ => ?_)
     clear hK K
     try simp only [Act.put, List.setIfInBounds_toArray, List.set_cons_zero, List.set_cons_succ]
     generalize w8.heap.size = gB at *
     refine wpAnyU_ready (rs := [11]) (by kernel_rfl) (by simp) ?_
     refine AllReadyU.cons (o := ?o306) ?hi306 (fun K hK => ?_) AllReadyU.nil
     case hi306 => (simp only [List.getElem?_toArray, List.getElem?_cons_succ, List.getElem?_cons_zero]; exact rfl)
     refine step_append_ri rfl (.tmp 51) (.tmp 53) 48 (by rfl) N 3 Tryz.underlying48 info_int _ _ _ (by rfl) O8.out (some ⟨gB, 0, none⟩) 1 1 _ (by rfl) (Ri.blk (xs := [(i : Int)]) RB.out rfl) (by omega) (NB _ B9) ?_
     intro v11 w11 o11 g11 b11 a11
     have B11 : Kept (Below N w w11) := ⟨B9.out.trans b11⟩
     refine hK.out _ _ (fun _ => CS _ B11) (fun _ => ?_)
     clear hK K
     try simp only [Act.put, List.setIfInBounds_toArray, List.set_cons_zero, List.set_cons_succ]
     refine wpAnyU_ready (rs := [18]) (by kernel_rfl) (by simp) ?_
     refine AllReadyU.cons (o := ?o307) ?hi307 (fun K hK => ?_) AllReadyU.nil
     case hi307 => (simp only [List.getElem?_toArray, List.getElem?_cons_succ, List.getElem?_cons_zero]; exact rfl)
     refine step_append_ri rfl (.tmp 54) (.tmp 60) 48 (by rfl) N 3 Tryz.underlying48 info_int _ _ _ (by rfl) o11.out A2 (p.length - k) (cap - k) _ (by rfl) (RR2.out _ B11) (by omega) (NB _ B11) ?_
     intro v18 w18 o18 g18 b18 a18
     have B18 : Kept (Below N w w18) := ⟨B11.out.trans b18⟩
     simp only [Nat.zero_add] at o18
     obtain ⟨A18, c18, rfl⟩ := own_shape o18.out
     refine hK.out _ _ (fun _ => CS _ B18) (fun _ => ?_)
     clear hK K
     try simp only [Act.put, List.setIfInBounds_toArray, List.set_cons_zero, List.set_cons_succ]
     refine wpAnyU_ready (rs := [19]) (by kernel_rfl) (by simp) ?_
     refine AllReadyU.cons (o := ?o288) ?hi288 (fun K hK => ?_) AllReadyU.nil
     case hi288 => (simp only [List.getElem?_toArray, List.getElem?_cons_succ, List.getElem?_cons_zero]; exact rfl)
     go_simp
     refine hK.out _ _ (fun _ => CS _ B18) (fun _ => ?_)
     clear hK K
     try simp only [Act.put, List.setIfInBounds_toArray, List.set_cons_zero, List.set_cons_succ]
     refine wpAnyU_ready (rs := [20]) (by kernel_rfl) (by simp) ?_
     refine AllReadyU.cons (o := ?o289) ?hi289 (fun K hK => ?_) AllReadyU.nil
     case hi289 => (simp only [List.getElem?_toArray, List.getElem?_cons_succ, List.getElem?_cons_zero]; exact rfl)
     go_simp
     refine hK.out _ _ (fun _ => CS _ B18) (fun _ => ?_)
     clear hK K
     try simp only [Act.put, List.setIfInBounds_toArray, List.set_cons_zero, List.set_cons_succ]
     have x2 := CS _ B18
     have z2 := (H1.out.below (HN.out ▸ B18.out) H1.out.lt).frozen 2
     refine wpAnyU_ready (rs := [21]) (by kernel_rfl) (by simp) ?_
     refine AllReadyU.cons (o := ?o290) ?hi290 (fun K hK => ?_) AllReadyU.nil
     case hi290 => (simp only [List.getElem?_toArray, List.getElem?_cons_succ, List.getElem?_cons_zero]; exact rfl)
     go_simp
     refine hK.out _ _ (fun h => absurd rfl h) (fun _ => ?_)
     clear hK K
     try simp only [Act.put, List.setIfInBounds_toArray, List.set_cons_zero, List.set_cons_succ]
     have FIN := dirty_fin (q := ins i p) HN.out H1.out H2.out H3.out H4.out B18.out (EQ.out _ _ o18.out)
     have FF := Kept.mk FIN
     clear FIN o18 o11 O8 x2 z2
     refine wpAnyU_done (by kernel_rfl) ?_ _
     refine NoPanic.normal ?_
     go_wp2
     go_end0
     rw [HP.out] at FF ⊢
     exact ⟨rfl, _, FF.out⟩
    ·go_simp
     have RB := Kept.mk (Blk.new w1 3 #[.int .i64 (i : Int)])
     have O1 := Kept.mk (O0.out.alloc (.cells #[.int .i64 (i : Int)] 3))
     have B9 : Kept (Below N w (w1.alloc (.cells #[.int .i64 (i : Int)] 3))) := ⟨B1.out.alloc (NB _ B1) _⟩
     have hne : some w1.heap.size ≠ (Value.slice (some ⟨g0, 0, none⟩) 0 0).ownBlock := by rw [hv]; intro he; injection he with he; omega
     refine hK.out _ _ (fun _ => CS _ B9) (fun _ => ?_)
     clear hK K
     try simp only [Act.put, List.setIfInBounds_toArray, List.set_cons_zero, List.set_cons_succ]
     generalize w1.alloc (.cells #[.int .i64 (i : Int)] 3) = w2 at *
     generalize w1.heap.size = gB at *
     refine wpAnyU_ready (rs := [8]) (by kernel_rfl) (by simp) ?_
     refine AllReadyU.cons (o := ?o308) ?hi308 (fun K hK => ?_) AllReadyU.nil
     case hi308 => (simp only [List.getElem?_toArray, List.getElem?_cons_succ, List.getElem?_cons_zero]; exact rfl)
     refine step_append_ri rfl (.tmp 44) (.tmp 50) 48 (by rfl) N 3 Tryz.underlying48 info_int _ _ _ (by rfl) O1.out A1 k cap _ (by rfl) (RR1.out _ B9) (by omega) (NB _ B9) ?_
     intro v8 w8 o8 g8 b8 a8
     have B8 : Kept (Below N w w8) := ⟨B9.out.trans b8⟩
     replace RB := Kept.mk (RB.out.grown g8 hne)
     refine hK.out _ _ (fun _ => CS _ B8) (fun _ => ?_)
     clear hK K
     try simp only [Act.put, List.setIfInBounds_toArray, List.set_cons_zero, List.set_cons_succ]
     have O8 := o8
     refine wpAnyU_ready (rs := [11]) (by kernel_rfl) (by simp) ?_
     refine AllReadyU.cons (o := ?o309) ?hi309 (fun K hK => ?_) AllReadyU.nil
     case hi309 => (simp only [List.getElem?_toArray, List.getElem?_cons_succ, List.getElem?_cons_zero]; exact rfl)
     refine step_append_ri rfl (.tmp 51) (.tmp 53) 48 (by rfl) N 3 Tryz.underlying48 info_int _ _ _ (by rfl) O8.out (some ⟨gB, 0, none⟩) 1 1 _ (by rfl) (Ri.blk (xs := [(i : Int)]) RB.out rfl) (by omega) (NB _ B8) ?_
     intro v11 w11 o11 g11 b11 a11
     have B11 : Kept (Below N w w11) := ⟨B8.out.trans b11⟩
     refine hK.out _ _ (fun _ => CS _ B11) (fun _ => ?_)
     clear hK K
     try simp only [Act.put, List.setIfInBounds_toArray, List.set_cons_zero, List.set_cons_succ]
     refine wpAnyU_ready (rs := [18]) (by kernel_rfl) (by simp) ?_
     refine AllReadyU.cons (o := ?o310) ?hi310 (fun K hK => ?_) AllReadyU.nil
     case hi310 => (simp only [List.getElem?_toArray, List.getElem?_cons_succ, List.getElem?_cons_zero]; exact rfl)
     refine step_append_ri rfl (.tmp 54) (.tmp 60) 48 (by rfl) N 3 Tryz.underlying48 info_int _ _ _ (by rfl) o11.out A2 (p.length - k) (cap - k) _ (by rfl) (RR2.out _ B11) (by omega) (NB _ B11) ?_
     intro v18 w18 o18 g18 b18 a18
     have B18 : Kept (Below N w w18) := ⟨B11.out.trans b18⟩
     simp only [Nat.zero_add] at o18
     obtain ⟨A18, c18, rfl⟩ := own_shape o18.out
     refine hK.out _ _ (fun _ => CS _ B18) (fun _ => ?_)
     clear hK K
     try simp only [Act.put, List.setIfInBounds_toArray, List.set_cons_zero, List.set_cons_succ]
     refine wpAnyU_ready (rs := [19]) (by kernel_rfl) (by simp) ?_
     refine AllReadyU.cons (o := ?o291) ?hi291 (fun K hK => ?_) AllReadyU.nil
     case hi291 => (simp only [List.getElem?_toArray, List.getElem?_cons_succ, List.getElem?_cons_zero]; exact rfl)
     go_simp
     refine hK.out _ _ (fun _ => CS _ B18) (fun _ => ?_)
     clear hK K
     try simp only [Act.put, List.setIfInBounds_toArray, List.set_cons_zero, List.set_cons_succ]
     refine wpAnyU_ready (rs := [20]) (by kernel_rfl) (by simp) ?_
     refine AllReadyU.cons (o := ?o292) ?hi292 (fun K hK => ?_) AllReadyU.nil
     case hi292 => (simp only [List.getElem?_toArray, List.getElem?_cons_succ, List.getElem?_cons_zero]; exact rfl)
     go_simp
     refine hK.out _ _ (fun _ => CS _ B18) (fun _ => ?_)
     clear hK K
     try simp only [Act.put, List.setIfInBounds_toArray, List.set_cons_zero, List.set_cons_succ]
     have x2 := CS _ B18
     have z2 := (H1.out.below (HN.out ▸ B18.out) H1.out.lt).frozen 2
     refine wpAnyU_ready (rs := [21]) (by kernel_rfl) (by simp) ?_
     refine AllReadyU.cons (o := ?o293) ?hi293 (fun K hK => ?_) AllReadyU.nil
     case hi293 => (simp only [List.getElem?_toArray, List.getElem?_cons_succ, List.getElem?_cons_zero]; exact rfl)
     go_simp
     refine hK.out _ _ (fun h => absurd rfl h) (fun _ => ?_)
     clear hK K
     try simp only [Act.put, List.setIfInBounds_toArray, List.set_cons_zero, List.set_cons_succ]
     have FIN := dirty_fin (q := ins i p) HN.out H1.out H2.out H3.out H4.out B18.out (EQ.out _ _ o18.out)
     have FF := Kept.mk FIN
     clear FIN o18 o11 O8 x2 z2
     refine wpAnyU_done (by kernel_rfl) ?_ _
     refine NoPanic.normal ?_
     go_wp2
     go_end0
     rw [HP.out] at FF ⊢
     exact ⟨rfl, _, FF.out⟩
   ·go_simp
    have RB := Kept.mk (Blk.new wd 3 #[.int .i64 (i : Int)])
    have B1 : Kept (Below N w (wd.alloc (.cells #[.int .i64 (i : Int)] 3))) := ⟨B0.out.alloc (NB _ B0) _⟩
    have hlt1 : wd.heap.size < (wd.alloc (.cells #[.int .i64 (i : Int)] 3)).heap.size := by simp
    refine hK.out _ _ (fun _ => CS _ B1) (fun _ => ?_)
    clear hK K
    try simp only [Act.put, List.setIfInBounds_toArray, List.set_cons_zero, List.set_cons_succ]
    generalize wd.alloc (.cells #[.int .i64 (i : Int)] 3) = w1 at *
    generalize wd.heap.size = gB at *
    refine wpAnyU_ready (rs := [1]) (by kernel_rfl) (by simp) ?_
    refine AllReadyU.cons (o := ?o294) ?hi294 (fun K hK => ?_) AllReadyU.nil
    case hi294 => (simp only [List.getElem?_toArray, List.getElem?_cons_succ, List.getElem?_cons_zero]; exact rfl)
    go_simp
    have O0 := Kept.mk (World.ownsRow_made (base := N) (e := 3) (size := 1) w1 #[] 0 (NB _ B1) (by unfold maxLen; omega) rfl)
    replace RB := Kept.mk (RB.out.alloc (.cells #[] 3))
    have B9 : Kept (Below N w (w1.alloc (.cells #[] 3))) := ⟨B1.out.alloc (NB _ B1) _⟩
    have hne : some gB ≠ (Value.slice (some ⟨w1.heap.size, 0, none⟩) 0 0).ownBlock := by simp [Value.ownBlock]; omega
    refine hK.out _ _ (fun _ => CS _ B9) (fun _ => ?_)
    clear hK K
    try simp only [Act.put, List.setIfInBounds_toArray, List.set_cons_zero, List.set_cons_succ]
    generalize w1.alloc (.cells #[] 3) = w2 at *
    generalize w1.heap.size = g0 at *
    refine wpAnyU_ready (rs := [8]) (by kernel_rfl) (by simp) ?_
    refine AllReadyU.cons (o := ?o311) ?hi311 (fun K hK => ?_) AllReadyU.nil
    case hi311 => (simp only [List.getElem?_toArray, List.getElem?_cons_succ, List.getElem?_cons_zero]; exact rfl)
    refine step_append_ri rfl (.tmp 44) (.tmp 50) 48 (by rfl) N 3 Tryz.underlying48 info_int _ _ _ (by rfl) O0.out A1 k cap _ (by rfl) (RR1.out _ B9) (by omega) (NB _ B9) ?_
    intro v8 w8 o8 g8 b8 a8
    have B8 : Kept (Below N w w8) := ⟨B9.out.trans b8⟩
    replace RB := Kept.mk (RB.out.grown g8 hne)
    refine hK.out _ _ (fun _ => CS _ B8) (fun _ => ?_)
    clear hK K
    try simp only [Act.put, List.setIfInBounds_toArray, List.set_cons_zero, List.set_cons_succ]
    have O8 := o8
    refine wpAnyU_ready (rs := [11]) (by kernel_rfl) (by simp) ?_
    refine AllReadyU.cons (o := ?o312) ?hi312 (fun K hK => ?_) AllReadyU.nil
    case hi312 => (simp only [List.getElem?_toArray, List.getElem?_cons_succ, List.getElem?_cons_zero]; exact rfl)
    refine step_append_ri rfl (.tmp 51) (.tmp 53) 48 (by rfl) N 3 Tryz.underlying48 info_int _ _ _ (by rfl) O8.out (some ⟨gB, 0, none⟩) 1 1 _ (by rfl) (Ri.blk (xs := [(i : Int)]) RB.out rfl) (by omega) (NB _ B8) ?_
    intro v11 w11 o11 g11 b11 a11
    have B11 : Kept (Below N w w11) := ⟨B8.out.trans b11⟩
    refine hK.out _ _ (fun _ => CS _ B11) (fun _ => ?_)
    clear hK K
    try simp only [Act.put, List.setIfInBounds_toArray, List.set_cons_zero, List.set_cons_succ]
    refine wpAnyU_ready (rs := [18]) (by kernel_rfl) (by simp) ?_
    refine AllReadyU.cons (o := ?o313) ?hi313 (fun K hK => ?_) AllReadyU.nil
    case hi313 => (simp only [List.getElem?_toArray, List.getElem?_cons_succ, List.getElem?_cons_zero]; exact rfl)
    refine step_append_ri rfl (.tmp 54) (.tmp 60) 48 (by rfl) N 3 Tryz.underlying48 info_int _ _ _ (by rfl) o11.out A2 (p.length - k) (cap - k) _ (by rfl) (RR2.out _ B11) (by omega) (NB _ B11) ?_
    intro v18 w18 o18 g18 b18 a18
    have B18 : Kept (Below N w w18) := ⟨B11.out.trans b18⟩
    simp only [Nat.zero_add] at o18
    obtain ⟨A18, c18, rfl⟩ := own_shape o18.out
    refine hK.out _ _ (fun _ => CS _ B18) (fun _ => ?_)
    clear hK K
    try simp only [Act.put, List.setIfInBounds_toArray, List.set_cons_zero, List.set_cons_succ]
    refine wpAnyU_ready (rs := [19]) (by kernel_rfl) (by simp) ?_
    refine AllReadyU.cons (o := ?o295) ?hi295 (fun K hK => ?_) AllReadyU.nil
    case hi295 => (simp only [List.getElem?_toArray, List.getElem?_cons_succ, List.getElem?_cons_zero]; exact rfl)
    go_simp
    refine hK.out _ _ (fun _ => CS _ B18) (fun _ => ?_)
    clear hK K
    try simp only [Act.put, List.setIfInBounds_toArray, List.set_cons_zero, List.set_cons_succ]
    refine wpAnyU_ready (rs := [20]) (by kernel_rfl) (by simp) ?_
    refine AllReadyU.cons (o := ?o296) ?hi296 (fun K hK => ?_) AllReadyU.nil
    case hi296 => (simp only [List.getElem?_toArray, List.getElem?_cons_succ, List.getElem?_cons_zero]; exact rfl)
    go_simp
    refine hK.out _ _ (fun _ => CS _ B18) (fun _ => ?_)
    clear hK K
    try simp only [Act.put, List.setIfInBounds_toArray, List.set_cons_zero, List.set_cons_succ]
    have x2 := CS _ B18
    have z2 := (H1.out.below (HN.out ▸ B18.out) H1.out.lt).frozen 2
    refine wpAnyU_ready (rs := [21]) (by kernel_rfl) (by simp) ?_
    refine AllReadyU.cons (o := ?o297) ?hi297 (fun K hK => ?_) AllReadyU.nil
    case hi297 => (simp only [List.getElem?_toArray, List.getElem?_cons_succ, List.getElem?_cons_zero]; exact rfl)
    go_simp
    refine hK.out _ _ (fun h => absurd rfl h) (fun _ => ?_)
    clear hK K
    try simp only [Act.put, List.setIfInBounds_toArray, List.set_cons_zero, List.set_cons_succ]
    have FIN := dirty_fin (q := ins i p) HN.out H1.out H2.out H3.out H4.out B18.out (EQ.out _ _ o18.out)
    have FF := Kept.mk FIN
    clear FIN o18 o11 O8 x2 z2
    refine wpAnyU_done (by kernel_rfl) ?_ _
    refine NoPanic.normal ?_
    go_wp2
    go_end0
    rw [HP.out] at FF ⊢
    exact ⟨rfl, _, FF.out⟩
end Go.Proofs.YtkbehjdglgpgjaaGreat.Disk
