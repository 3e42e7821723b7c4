/-
  The document's own disk: Read, NewDisk.
-/
import Derived.Test.YtgjmnefninmoiaaDiskRef
import Derived.Test.YtgjmnefninmoiaaToBytes
namespace Go.Proofs.Ytgjmnefninmoiaa.Disk
open Go.RowKit Go.Proofs.Ytgjmnefninmoiaa.Sha

def RReadPost (w : World) (s : DS) (i : Int) (e : Ending) (w' : World) : Prop := ∃ A c, e = .returned (.tuple #[.slice A (readD s i).2.length c, .int .i64 (readD s i).1]) ∧ Rd w' A (readD s i).2.length (readD s i).2 ∧ Below w.heap.size w w'
set_option maxRecDepth 100000 in
set_option maxHeartbeats 400000 in
theorem rread_any (w : World) (F : List Nat) (d n : Nat) (s : DS) (i : Int) (h : Dr w F d n s) : Calls Try.prog 16 #[.pointer (some ⟨d, 0, none⟩), .int .i64 i] w (RReadPost w s i) := by
  obtain ⟨h0, gn, cn, gl, cl, vp, h1, h2, h3, h4, h5, rfl⟩ := h
  have c0 : w.cell? ⟨d, 0, none⟩ = some (.slice (some ⟨gn, 0, none⟩) n cn) := h1.cell 0
  have c4 : w.cell? ⟨d, 4, none⟩ = some (.bool s.down) := h1.cell 4
  have hlen := h0.now
  cases hd : s.down with
  | true =>
    have e1 : readD s i = (13, []) := by unfold readD; rw [if_pos hd]
    have P1 : Kept (RReadPost w s i (.returned (.tuple #[.slice none 0 0, .int .i64 13])) w) := ⟨none, 0, by rw [e1]; rfl, by rw [e1]; exact Rd.nil_, Below.refl _ _⟩
    rw [hd] at c4
    clear h0 h1 h2 h3 h4 h5 e1 c0
    go_enter Try.func16, Try.ntmps16
    go_wp2
    go_ret2
    exact P1.out
  | false =>
    have hdn : ¬ s.down = true := by simp [hd]
    rw [hd] at c4
    by_cases hi : noSector s i
    · have e1 : readD s i = (1, []) := by unfold readD; rw [if_neg hdn, if_pos hi]
      have P1 : Kept (RReadPost w s i (.returned (.tuple #[.slice none 0 0, .int .i64 1])) w) := ⟨none, 0, by rw [e1]; rfl, by rw [e1]; exact Rd.nil_, Below.refl _ _⟩
      clear h0 h1 h2 h3 h4 h5 e1 hdn hd
      by_cases hi0 : i < 0
      · clear hi
        go_enter Try.func16, Try.ntmps16
        go_wp2
        go_ret2
        exact P1.out
      · have hin : (n : Int) ≤ i := by unfold noSector at hi; omega
        clear hi
        go_enter Try.func16, Try.ntmps16
        go_wp2
        go_ret2
        exact P1.out
    · have e1 : readD s i = (0, rowOf s.now i.toNat) := by unfold readD; rw [if_neg hdn, if_neg hi]
      obtain ⟨j, rfl⟩ : ∃ j : Nat, i = j := ⟨i.toNat, by unfold noSector at hi; omega⟩
      have hj : j < n := by unfold noSector at hi; omega
      rw [Int.toNat_natCast] at e1
      have hs := (h0.secs j hj).1
      have x0 := h2.cell j (by omega)
      obtain ⟨w', c, hcv, r, b⟩ := to_bytes w (rowOf s.now j) hs.2
      have P1 : Kept (RReadPost w s j (.returned (.tuple #[.slice (some ⟨w.heap.size, 0, none⟩) (rowOf s.now j).length c, .int .i64 0])) w') := ⟨_, c, by rw [e1], by rw [e1]; exact r, b⟩
      have hj' : (j : Int) < n := by omega
      clear h0 h1 h2 h3 h4 h5 e1 hdn hd hi r b hs
      generalize (rowOf s.now j).length = L at *
      generalize strOfNums (rowOf s.now j) = Z at *
      go_enter Try.func16, Try.ntmps16
      go_wp2
      go_ret2
      exact P1.out
theorem rnew_bad (w : World) (n : Int) (h : ¬ (1 ≤ n ∧ n ≤ 8192)) : Calls Try.prog 11 #[.int .i64 n] w fun e w' => e = .returned (.tuple #[.pointer none, .int .i64 1]) ∧ w = w' := by
  by_cases h1 : n < 1
  · clear h
    go_enter Try.func11, Try.ntmps11
    go_wp2
    go_ret2
    exact ⟨rfl, rfl⟩
  · have h2 : 8192 < n := by omega
    clear h
    go_enter Try.func11, Try.ntmps11
    go_wp2
    go_ret2
    exact ⟨rfl, rfl⟩
theorem make64 (w : World) : ∃ w', (Instr.makeSlice 36 (.int .i64 64) (.int .i64 64)).run Try.prog w = .ok (.slice (some ⟨w.heap.size, 0, none⟩) 64 64) w' ∧ Rd w' (some ⟨w.heap.size, 0, none⟩) 64 zeros64 ∧ Blk w' w.heap.size 5 (arr .u8 zeros64) ∧ Below w.heap.size w w' := by
  obtain ⟨w', h1, h2, h3⟩ := make_blk w 64 (by omega)
  exact ⟨w', h1, Rd.blk h2 sec_zeros.2 rfl, h2, h3⟩
def RNewPost (w : World) (n : Nat) (e : Ending) (w' : World) : Prop := ∃ d F, e = .returned (.tuple #[.pointer (some ⟨d, 0, none⟩), .int .i64 0]) ∧ Dr w' F d n (newD n) ∧ Fp [] F w w'
/-- one row of two in a struct grows, and is stored where it was read -/
theorem grow_one {w wr w1 : World} {o : Obj} {D d idx k m : Nat} {e T : TypeId} {v u v' : Value} {cs : Array Value} {xs ys zs : List Value} (H : Kept (Blk wr d T cs)) (O1 : Kept (wr.ownsRow 0 e 1 v k xs)) (O2 : Kept (wr.ownsRow 0 e 1 u m ys)) (AP : Kept (Apart v u)) (hT : e ≠ T)
    (B : Kept (Below D w wr)) (GE : Kept (∀ g ∈ v.ownBlock.toList ++ u.ownBlock.toList, D ≤ g)) (hd : D ≤ d) (hD : D ≤ wr.heap.size)
    (g1 : (wr.alloc o).grownBy w1 v.ownBlock) (o1 : w1.ownsRow 0 e 1 v' (k + 1) zs) (a1 : v'.ownBlock = v.ownBlock ∨ v'.ownBlock = some (wr.alloc o).heap.size) :
    (Kept (w1.cell? ⟨d, idx, none⟩ = cs[idx]?) ∧ Kept (w1.frozen? ⟨d, idx, none⟩ = false)) ∧ Kept (Blk (w1.setCell ⟨d, idx, none⟩ v') d T (cs.setIfInBounds idx v')) ∧ Kept ((w1.setCell ⟨d, idx, none⟩ v').ownsRow 0 e 1 v' (k + 1) zs) ∧ Kept ((w1.setCell ⟨d, idx, none⟩ v').ownsRow 0 e 1 u m ys) ∧ Kept (Apart v' u) ∧
      Kept (Below D w (w1.setCell ⟨d, idx, none⟩ v')) ∧ Kept (∀ g ∈ v'.ownBlock.toList ++ u.ownBlock.toList, D ≤ g) := by
  have f1 := own_far O1.out H.out hT
  have H1 : Blk w1 d T cs := (H.out.alloc o).grown g1 (Ne.symm f1)
  obtain ⟨p1, p2⟩ := apart_in AP.out (O2.out.alloc o) g1 a1
  have f2 := own_far o1 H1 hT
  have f3 := own_far p1 H1 hT
  have hb : Bar [d] w1 (w1.setCell ⟨d, idx, none⟩ v') := (Bar.refl _ _).setCell (by simp) _
  have hGE : ∀ g ∈ v'.ownBlock.toList, D ≤ g := by
    intro g hg
    rcases a1 with a1 | a1
    · rw [a1] at hg; exact GE.out g (by simp at hg; simp [hg])
    · rw [a1] at hg; simp at hg; omega
  refine ⟨⟨⟨H1.cell idx⟩, ⟨H1.frozen idx⟩⟩, ⟨H1.set_ idx v'⟩, ⟨own_keep o1 hb fun g hg => ?_⟩, ⟨own_keep p1 hb fun g hg => ?_⟩, ⟨fun g h1 h2 => p2 g h2 h1⟩, ⟨?_⟩, ⟨fun g hg => ?_⟩⟩
  · simp at hg ⊢; rintro rfl; exact f2 hg
  · simp at hg ⊢; rintro rfl; exact f3 hg
  · refine ((B.out.alloc hD o).grown g1 (by simp; omega) (fun g hg => GE.out g (by simp [hg]))).setCell hd _
  · rcases List.mem_append.1 hg with hg | hg
    · exact hGE g hg
    · exact GE.out g (by simp at hg; simp [hg])
set_option maxRecDepth 100000 in
set_option maxHeartbeats 1000000 in
theorem rnew_ok (w : World) (n : Nat) (h1 : 1 ≤ n) (h2 : n ≤ 8192) : Calls Try.prog 11 #[.int .i64 n] w (RNewPost w n) := by
  have h1' : (1 : Int) ≤ n := by omega
  have h2' : (n : Int) ≤ 8192 := by omega
  obtain ⟨d, hd⟩ : ∃ d, w.heap.size = d := ⟨_, rfl⟩
  have HB := Kept.mk (Blk.new_at w 48 #[.slice none 0 0, .slice none 0 0, .slice none 0 0, .int .i64 (-1), .bool false] d hd.symm)
  have BB : Kept (Below d w (w.alloc (.cells #[.slice none 0 0, .slice none 0 0, .slice none 0 0, .int .i64 (-1), .bool false] 48))) := ⟨(Below.refl _ _).alloc (by omega) _⟩
  obtain ⟨w2, hmk, r, -, b⟩ := make64 (w.alloc (.cells #[.slice none 0 0, .slice none 0 0, .slice none 0 0, .int .i64 (-1), .bool false] 48))
  have HB2 := Kept.mk (HB.out.below b HB.out.lt)
  have BB2 := Kept.mk (BB.out.trans (b.mono (by have := BB.out.size; omega)))
  rw [show (w.alloc (.cells #[.slice none 0 0, .slice none 0 0, .slice none 0 0, .int .i64 (-1), .bool false] 48)).heap.size = d + 1 by simp [hd]] at hmk r
  have hcv := conv_same (cap := 64) r
  have HD := Kept.mk hd
  clear r b HB BB
  go_enter Try.func11, Try.ntmps11
  obtain ⟨Z, hZ⟩ : ∃ Z, strOfNums zeros64 = Z := ⟨_, rfl⟩
  rw [hZ] at hcv
  have HZ := Kept.mk hZ
  clear hZ
  go_wp2
  clear hmk hcv hd
  go_loopw [6] (fun j wr => ∃ (k : Nat) (vn vl : Value), k ≤ n ∧ j = .int .i64 k ∧ Kept (Blk wr d 48 #[vn, vl, .slice none 0 0, .int .i64 (-1), .bool false]) ∧ Kept (wr.ownsRow 0 9 1 vn k (List.replicate k (.string Z))) ∧ Kept (wr.ownsRow 0 9 1 vl k (List.replicate k (.string Z))) ∧ Kept (Apart vn vl) ∧ Kept (Below d w wr) ∧ Kept (∀ g ∈ vn.ownBlock.toList ++ vl.ownBlock.toList, d ≤ g)) (fun j _ => n - (intOf j).toNat)
  case atStart => exact ⟨0, _, _, by omega, rfl, HB2, ⟨World.ownsRow_nil _ _ _ _⟩, ⟨World.ownsRow_nil _ _ _ _⟩, ⟨fun g h => by simp [Value.ownBlock] at h⟩, BB2, ⟨fun g h => by simp [Value.ownBlock] at h⟩⟩
  case round =>
    clear HB2 BB2
    obtain ⟨k, vn, vl, hk, rfl, H, O1, O2, AP, B, GE⟩ := hrel
    by_cases hkn : k < n
    · have hkn' : (k : Int) < n := by omega
      obtain ⟨iu, hi, hz0, hz1, hz2⟩ := info_parts info_str
      have c0 : wr.cell? ⟨d, 0, none⟩ = some vn := H.out.cell 0
      have hDw : d ≤ wr.heap.size := Nat.le_of_lt H.out.lt
      have hk1 : k + 1 ≤ 8192 := by omega
      go_upto_region 9 with ((with_reducible refine sel 29 ?_); refine wpList_append_own_at _ rfl (.tmp 26) (.tmp 28) 45 rfl 0 9 iu (.string .empty) 1 16 Try.underlying45 hi hz0 hz1 hz2 rfl (by omega) vn k _ rfl (O1.out.alloc _) ⟨wr.heap.size, 0, none⟩ 1 1 [.string Z] rfl rfl (cell_one_new _ _ _) (by simp [Value.oneCell']) (by unfold maxLen; omega) (by omega) (by omega) ?_; intro v1 w1 o1 g1 _ a1; obtain ⟨A1, c1, rfl⟩ := own_shape o1; have ST := grow_one (idx := 0) H O1 O2 AP (by decide) B GE (Nat.le_refl _) hDw g1 o1 a1; have t1 := ST.1.1.out; have t2 := ST.1.2.out; rw [show (#[vn, vl, Value.slice none 0 0, Value.int IntKind.i64 (-1), Value.bool false] : Array Value)[0]? = some vn from rfl] at t1; have ST := Kept.mk ST.2; clear o1 g1 a1)
      clear t1 t2
      obtain ⟨H', O1', O2', AP', B', GE'⟩ := ST.out
      clear ST H O1 O2 AP B GE c0 hDw
      generalize w1.setCell ⟨d, 0, none⟩ (.slice A1 (k + 1) c1) = w3 at *
      rw [← List.replicate_succ'] at O1'
      replace H' : Kept (Blk w3 d 48 #[.slice A1 (k + 1) c1, vl, .slice none 0 0, .int .i64 (-1), .bool false]) := H'
      have c1' : w3.cell? ⟨d, 1, none⟩ = some vl := H'.out.cell 1
      have hDw : d ≤ w3.heap.size := Nat.le_of_lt H'.out.lt
      have AP2 : Kept (Apart vl (.slice A1 (k + 1) c1)) := ⟨fun g h1 h2 => AP'.out g h2 h1⟩
      have GE2 : Kept (∀ g ∈ vl.ownBlock.toList ++ (Value.slice A1 (k + 1) c1).ownBlock.toList, d ≤ g) := ⟨fun g hg => GE'.out g (by rw [List.mem_append] at hg ⊢; exact hg.symm)⟩
      clear AP' GE'
      go_wp2_with ((with_reducible refine sel 39 ?_); refine wpList_append_own_at _ rfl (.tmp 36) (.tmp 38) 45 rfl 0 9 iu (.string .empty) 1 16 Try.underlying45 hi hz0 hz1 hz2 rfl (by omega) vl k _ rfl (O2'.out.alloc _) ⟨w3.heap.size, 0, none⟩ 1 1 [.string Z] rfl rfl (cell_one_new _ _ _) (by simp [Value.oneCell']) (by unfold maxLen; omega) (by omega) (by omega) ?_; intro v5 w5 o5 g5 _ a5; obtain ⟨A5, c5, rfl⟩ := own_shape o5; have ST := grow_one (idx := 1) H' O2' O1' AP2 (by decide) B' GE2 (Nat.le_refl _) hDw g5 o5 a5; have t1 := ST.1.1.out; have t2 := ST.1.2.out; rw [show (#[.slice A1 (k + 1) c1, vl, Value.slice none 0 0, Value.int IntKind.i64 (-1), Value.bool false] : Array Value)[1]? = some vl from rfl] at t1; have ST := Kept.mk ST.2; clear o5 g5 a5)
      obtain ⟨H6, O6, O7, AP6, B6, GE6⟩ := ST.out
      rw [← List.replicate_succ'] at O6
      go_roundw
      case rel => exact ⟨k + 1, .slice A1 (k + 1) c1, .slice A5 (k + 1) c5, by omega, by go_num, H6, O7, O6, ⟨fun g h1 h2 => AP6.out g h2 h1⟩, B6, ⟨fun g hg => GE6.out g (by rw [List.mem_append] at hg ⊢; exact hg.symm)⟩⟩
      case measure => simp [intOf]; omega
    · have hkn' : ¬ (k : Int) < n := by omega
      obtain rfl : k = n := by omega
      have e1 : ∀ m, List.replicate m (Value.string Z) = strs (List.replicate m zeros64) := fun m => by rw [← HZ.out]; simp [strs]
      rw [e1] at O1 O2
      obtain ⟨l1, gn, cn, rfl, hcn, S1⟩ := strs_of_own O1.out h1
      obtain ⟨l2, gl, cl, rfl, hcl, S2⟩ := strs_of_own O2.out h1
      have P1 : Kept (RNewPost w k (.returned (.tuple #[.pointer (some ⟨d, 0, none⟩), .int .i64 0])) wr) := by
        refine ⟨d, d :: gn :: gl :: [], rfl, ⟨wf_new k h1 h2, gn, cn, gl, cl, .slice none 0 0, H.out, S1, S2, fun e => AP.out gn (by simp [Value.ownBlock]) (by simp [Value.ownBlock, e]), World.ownsRow_nil _ _ _ _, rfl⟩, (barOf (by rw [HD.out]; exact B.out) _), fun x hx => .inr ?_⟩
        have := GE.out gn (by simp [Value.ownBlock])
        have := GE.out gl (by simp [Value.ownBlock])
        have := HD.out
        simp at hx
        omega
      go_wp2
      go_ret2
      exact P1.out
end Go.Proofs.Ytgjmnefninmoiaa.Disk
