/-
  The document's own disk: dirty.
-/
import Derived.Test.YtgjmnefninmoiaaDiskRef2
import Derived.Test.YtgjmnefninmoiaaLast
import Derived.Test.YtgjmnefninmoiaaIntRows
namespace Go.Proofs.Ytgjmnefninmoiaa.Disk
open Go.RowKit Go.Proofs.Ytgjmnefninmoiaa.Sha

/-- the document's disk in memory, whatever it holds -/
def Drm (w : World) (F : List Nat) (d n : Nat) (s : DS) : Prop := ∃ gn cn gl cl vp, Blk w d 48 #[.slice (some ⟨gn, 0, none⟩) n cn, .slice (some ⟨gl, 0, none⟩) n cl, vp, .int .i64 s.fuse, .bool s.down] ∧
  Strs w gn s.now ∧ Strs w gl s.last ∧ gn ≠ gl ∧ w.ownsRow 0 3 1 vp s.pend.length (pints s.pend) ∧ F = d :: gn :: gl :: vp.ownBlock.toList
theorem Dr.mem {w : World} {F : List Nat} {d n : Nat} {s : DS} (h : Dr w F d n s) : Drm w F d n s := h.2
theorem pints_len (l : List Nat) : (pints l).length = l.length := by simp [pints]
theorem pend_cell {w : World} {A : Option Addr} {c : Nat} {l : List Nat} (h : w.ownsRow 0 3 1 (.slice A l.length c) l.length (pints l)) (k : Nat) (hk : k < l.length) : ∃ g, A = some ⟨g, 0, none⟩ ∧ w.cell? ⟨g, k, none⟩ = some (.int .i64 (l.getD k 0 : Nat)) := by
  have h0 := h
  rcases h.2 with ⟨_, h1⟩ | ⟨g, cap, cur, hv, -, -, h1, -⟩
  · omega
  · injection hv with hA hl hc
    subst hA hc
    refine ⟨g, rfl, ?_⟩
    rw [World.ownsRow.cellAt h0 k (by omega)]
    simp [pints, hk]
def nums (l : List Nat) : List Int := l.map fun (i : Nat) => (i : Int)
theorem pints_nums (l : List Nat) : pints l = ints .i64 (nums l) := by simp [pints, ints, nums]
/-- what was grown is stored -/
theorem dirty_fin {w wz : World} {d n N gn cn gl cl : Nat} {vp v' : Value} {s : DS} {q : List Nat} (hN : w.heap.size = N) (h1 : Blk w d 48 #[.slice (some ⟨gn, 0, none⟩) n cn, .slice (some ⟨gl, 0, none⟩) n cl, vp, .int .i64 s.fuse, .bool s.down])
    (h2 : Strs w gn s.now) (h3 : Strs w gl s.last) (h4 : gn ≠ gl) (b : Below N w wz) (o : wz.ownsRow N 3 1 v' q.length (pints q)) :
    Drm (wz.setCell ⟨d, 2, none⟩ v') (d :: gn :: gl :: v'.ownBlock.toList) d n { s with pend := q } ∧ Fp (d :: gn :: gl :: vp.ownBlock.toList) (d :: gn :: gl :: v'.ownBlock.toList) w (wz.setCell ⟨d, 2, none⟩ v') := by
  subst hN
  have k1 := h1.below b h1.lt
  have hb : Bar [d] w (wz.setCell ⟨d, 2, none⟩ v') := (barOf b [d]).setCell (by simp) _
  have hdn := blk_ne h1 h2.choose_spec.1 (by decide)
  have hdl := blk_ne h1 h3.choose_spec.1 (by decide)
  have hdo := own_far o k1 (by decide)
  refine ⟨⟨gn, cn, gl, cl, v', k1.set_ 2 v', h2.bar hb (by simpa using hdn.symm), h3.bar hb (by simpa using hdl.symm), h4, own_base (own_keep o ((Bar.refl [d] wz).setCell (by simp) _) (fun g hg => by simp at hg ⊢; rintro rfl; exact hdo hg)), rfl⟩, hb.mono (by simp), fun k hk => ?_⟩
  simp only [List.mem_cons] at hk ⊢
  rcases hk with rfl | rfl | rfl | hk
  · exact .inl (.inl rfl)
  · exact .inl (.inr (.inl rfl))
  · exact .inl (.inr (.inr (.inl rfl)))
  · exact .inr (o.lt k (by simpa using hk)).1
set_option maxRecDepth 100000 in
set_option maxHeartbeats 1000000 in
theorem rdirty_any (w : World) (F : List Nat) (d n : Nat) (s : DS) (i : Nat) (h : Drm w F d n s) (hl : s.pend.length ≤ 8192) :
    Calls Try.prog 31 #[.pointer (some ⟨d, 0, none⟩), .int .i64 i] w fun e w' => e = .returned (.tuple #[]) ∧ ∃ F', Drm w' F' d n { s with pend := ins i s.pend } ∧ Fp F F' w w' := by
  have HH := Kept.mk h
  obtain ⟨gn, cn, gl, cl, vp, h1, h2, h3, h4, h5, rfl⟩ := h
  obtain ⟨A, cap, rfl⟩ := own_shape h5
  have c2 : w.cell? ⟨d, 2, none⟩ = some (.slice A s.pend.length cap) := h1.cell 2
  obtain ⟨p, hp⟩ : ∃ p, s.pend = p := ⟨_, rfl⟩
  rw [hp] at h5 c2 hl
  have H1 := Kept.mk h1; have H2 := Kept.mk h2; have H3 := Kept.mk h3; have H4 := Kept.mk h4; have H5 := Kept.mk h5; have HP := Kept.mk hp
  clear h1 h2 h3 h4 h5 hp
  go_enter Try.func31, Try.ntmps31
  go_wp2
  go_loop [4] (fun j => ∃ k : Nat, k ≤ p.length ∧ j = .int .i64 k ∧ Kept (∀ j, j < k → p.getD j 0 < i)) (fun j => p.length - (intOf j).toNat)
  case atStart => exact ⟨0, by omega, rfl, ⟨fun j hj => by omega⟩⟩
  case round =>
    obtain ⟨k, hk, rfl, HK⟩ := hrel
    by_cases hkl : k < p.length
    · have hkl' : (k : Int) < p.length := by omega
      obtain ⟨g, rfl, xk⟩ := pend_cell H5.out k hkl
      by_cases hlt : p.getD k 0 < i
      · have hlt' : ((p.getD k 0 : Nat) : Int) < i := by omega
        have HK2 : Kept (∀ j, j < k + 1 → p.getD j 0 < i) := ⟨fun j hj => by
          by_cases hjk : j = k
          · subst hjk; exact hlt
          · exact HK.out j (by omega)⟩
        generalize p.getD k 0 = y at *
        go_wp2
        go_round
        case rel => exact ⟨k + 1, by omega, by go_num, HK2⟩
        case measure => simp [intOf]; omega
      · have hlt' : ¬ ((p.getD k 0 : Nat) : Int) < i := by omega
        have HI := Kept.mk (ins_split i p k hk HK.out (fun _ => hlt))
        by_cases he : p.getD k 0 = i
        · rw [if_pos ⟨hkl, he⟩] at HI
          rw [he] at xk
          have P1 : Kept (Drm w (d :: gn :: gl :: (Value.slice (some ⟨g, 0, none⟩) s.pend.length cap).ownBlock.toList) d n { s with pend := ins i s.pend }) := ⟨by
            have e1 : ({ s with pend := ins i s.pend } : DS) = s := by rw [HP.out, HI.out, ← HP.out]
            rw [e1]; exact HH.out⟩
          clear HI he hlt hlt' HK
          go_wp2
          first | go_end0 | (simp only [Exit.inBlock, Exit.then]; refine bodyPost_ret (results_none rfl _ _ _) rfl ?_) | refine bodyPost_ret (results_none rfl _ _ _) rfl ?_
          exact ⟨rfl, _, P1.out, Fp.refl _ _⟩
        · rw [if_neg (fun hc => he hc.2)] at HI
          have he' : ¬ ((p.getD k 0 : Nat) : Int) = i := by omega
          generalize p.getD k 0 = y at *
          go_wp2
          obtain ⟨hcap, hcap2, rp⟩ := own_ri (pints_nums p ▸ H5.out)
          obtain ⟨A1, hs1, r1⟩ := islice_h rp hcap k hk k rfl
          obtain ⟨A2, hs2, r2⟩ := islice_l rp hcap k hk k rfl
          obtain ⟨N, hN⟩ : ∃ N, w.heap.size = N := ⟨_, rfl⟩
          have HN := Kept.mk hN
          have CS : ∀ wx, Kept (Below N w wx) → wx.cell? ⟨d, 2, none⟩ = some (.slice (some ⟨g, 0, none⟩) p.length cap) := fun wx B => by
            rw [B.out.cell (by rw [← HN.out]; exact H1.out.lt)]; exact c2
          have NB : ∀ wx, Kept (Below N w wx) → N ≤ wx.heap.size := fun wx B => by rw [← HN.out]; exact B.out.size
          have RR1 := Kept.mk fun wx (B : Kept (Below N w wx)) => r1.below (by rw [HN.out]; exact B.out)
          have RR2 := Kept.mk fun wx (B : Kept (Below N w wx)) => r2.below (by rw [HN.out]; exact B.out)
          have EQ : Kept (∀ (v : Value) (wx : World), wx.ownsRow N 3 1 v (k + 1 + (p.length - k)) ([] ++ ints .i64 ((nums p).take k) ++ ints .i64 [(i : Int)] ++ ints .i64 ((nums p).drop k)) → wx.ownsRow N 3 1 v (ins i p).length (pints (ins i p))) := ⟨fun v wx o => by
            have e1 : [] ++ ints .i64 ((nums p).take k) ++ ints .i64 [(i : Int)] ++ ints .i64 ((nums p).drop k) = pints (ins i p) := by
              rw [HI.out]; simp [pints_nums, ints, nums, List.map_take, List.map_drop]
            have e2 : k + 1 + (p.length - k) = (ins i p).length := by
              rw [HI.out]; simp; omega
            rw [e1, e2] at o
            exact o⟩
          clear HK r1 r2 rp hN
          have B0 : Kept (Below N w w.drew) := ⟨(Below.refl N w).drew⟩
          refine wp_region_noPanic ?_
          refine wp_region_U 21 (S := fun w' : World => w'.cell? ⟨d, 2, none⟩ = some (.slice (some ⟨g, 0, none⟩) p.length cap)) (by kernel_rfl) (CS _ B0) (fun _ => ?_)
          generalize w.drew = wd at *
          refine wpAnyU_take (i := 0) (oi := ?o1) (v := ?v1) ?hi1 (by kernel_rfl) (by kernel_rfl) (by kernel_rfl) (by kernel_rfl) ?hq1 (Or.inl ⟨?hw1, ?hy1⟩) (by assumption) ?r1
          case hi1 => (simp only [List.getElem?_toArray, List.getElem?_cons_zero]; exact rfl)
          case hq1 => exact fun _ _ _ h => h
          case hw1 => rfl
          case hy1 => (intro w hSw; (try dsimp only at hSw); go_simp; try exact rfl)
          simp only [Act.put, List.setIfInBounds_toArray, List.set_cons_zero, List.set_cons_succ]
          refine wpAnyU_take (i := 2) (oi := ?o2) (v := ?v2) ?hi2 (by kernel_rfl) (by kernel_rfl) (by kernel_rfl) (by kernel_rfl) ?hq2 (Or.inl ⟨?hw2, ?hy2⟩) (by assumption) ?r2
          case hi2 => (simp only [List.getElem?_toArray, List.getElem?_cons_succ, List.getElem?_cons_zero]; exact rfl)
          case hq2 => exact fun _ _ _ h => h
          case hw2 => rfl
          case hy2 => (intro w hSw; (try dsimp only at hSw); go_simp; try exact rfl)
          simp only [Act.put, List.setIfInBounds_toArray, List.set_cons_zero, List.set_cons_succ]
          refine wpAnyU_take (i := 3) (oi := ?o3) (v := ?v3) ?hi3 (by kernel_rfl) (by kernel_rfl) (by kernel_rfl) (by kernel_rfl) ?hq3 (Or.inl ⟨?hw3, ?hy3⟩) (by assumption) ?r3
          case hi3 => (simp only [List.getElem?_toArray, List.getElem?_cons_succ, List.getElem?_cons_zero]; exact rfl)
          case hq3 => exact fun _ _ _ h => h
          case hw3 => rfl
          case hy3 => (intro w hSw; (try dsimp only at hSw); go_simp; try exact rfl)
          simp only [Act.put, List.setIfInBounds_toArray, List.set_cons_zero, List.set_cons_succ]
          refine wpAnyU_take (i := 4) (oi := ?o4) (v := ?v4) ?hi4 (by kernel_rfl) (by kernel_rfl) (by kernel_rfl) (by kernel_rfl) ?hq4 (Or.inl ⟨?hw4, ?hy4⟩) (by assumption) ?r4
          case hi4 => (simp only [List.getElem?_toArray, List.getElem?_cons_succ, List.getElem?_cons_zero]; exact rfl)
          case hq4 => exact fun _ _ _ h => h
          case hw4 => rfl
          case hy4 => (intro w hSw; (try dsimp only at hSw); go_simp; try exact rfl)
          simp only [Act.put, List.setIfInBounds_toArray, List.set_cons_zero, List.set_cons_succ]
          refine wpAnyU_take (i := 5) (oi := ?o5) (v := ?v5) ?hi5 (by kernel_rfl) (by kernel_rfl) (by kernel_rfl) (by kernel_rfl) ?hq5 (Or.inl ⟨?hw5, ?hy5⟩) (by assumption) ?r5
          case hi5 => (simp only [List.getElem?_toArray, List.getElem?_cons_succ, List.getElem?_cons_zero]; exact rfl)
          case hq5 => exact fun _ _ _ h => h
          case hw5 => rfl
          case hy5 => (intro w hSw; (try dsimp only at hSw); go_simp; try exact rfl)
          simp only [Act.put, List.setIfInBounds_toArray, List.set_cons_zero, List.set_cons_succ]
          refine wpAnyU_take (i := 6) (oi := ?o6) (v := ?v6) ?hi6 (by kernel_rfl) (by kernel_rfl) (by kernel_rfl) (by kernel_rfl) ?hq6 (Or.inl ⟨?hw6, ?hy6⟩) (by assumption) ?r6
          case hi6 => (simp only [List.getElem?_toArray, List.getElem?_cons_succ, List.getElem?_cons_zero]; exact rfl)
          case hq6 => exact fun _ _ _ h => h
          case hw6 => rfl
          case hy6 => (intro w hSw; (try dsimp only at hSw); go_simp; try exact rfl)
          simp only [Act.put, List.setIfInBounds_toArray, List.set_cons_zero, List.set_cons_succ]
          refine wpAnyU_take (i := 7) (oi := ?o7) (v := ?v7) ?hi7 (by kernel_rfl) (by kernel_rfl) (by kernel_rfl) (by kernel_rfl) ?hq7 (Or.inl ⟨?hw7, ?hy7⟩) (by assumption) ?r7
          case hi7 => (simp only [List.getElem?_toArray, List.getElem?_cons_succ, List.getElem?_cons_zero]; exact rfl)
          case hq7 => exact fun _ _ _ h => h
          case hw7 => rfl
          case hy7 => (intro w hSw; (try dsimp only at hSw); go_simp; try exact rfl)
          simp only [Act.put, List.setIfInBounds_toArray, List.set_cons_zero, List.set_cons_succ]
          refine wpAnyU_take (i := 9) (oi := ?o8) (v := ?v8) ?hi8 (by kernel_rfl) (by kernel_rfl) (by kernel_rfl) (by kernel_rfl) ?hq8 (Or.inl ⟨?hw8, ?hy8⟩) (by assumption) ?r8
          case hi8 => (simp only [List.getElem?_toArray, List.getElem?_cons_succ, List.getElem?_cons_zero]; exact rfl)
          case hq8 => exact fun _ _ _ h => h
          case hw8 => rfl
          case hy8 => (intro w hSw; (try dsimp only at hSw); go_simp; try exact rfl)
          simp only [Act.put, List.setIfInBounds_toArray, List.set_cons_zero, List.set_cons_succ]
          refine wpAnyU_take (i := 12) (oi := ?o9) (v := ?v9) ?hi9 (by kernel_rfl) (by kernel_rfl) (by kernel_rfl) (by kernel_rfl) ?hq9 (Or.inl ⟨?hw9, ?hy9⟩) (by assumption) ?r9
          case hi9 => (simp only [List.getElem?_toArray, List.getElem?_cons_succ, List.getElem?_cons_zero]; exact rfl)
          case hq9 => exact fun _ _ _ h => h
          case hw9 => rfl
          case hy9 => (intro w hSw; (try dsimp only at hSw); go_simp; try exact rfl)
          simp only [Act.put, List.setIfInBounds_toArray, List.set_cons_zero, List.set_cons_succ]
          refine wpAnyU_take (i := 13) (oi := ?o10) (v := ?v10) ?hi10 (by kernel_rfl) (by kernel_rfl) (by kernel_rfl) (by kernel_rfl) ?hq10 (Or.inl ⟨?hw10, ?hy10⟩) (by assumption) ?r10
          case hi10 => (simp only [List.getElem?_toArray, List.getElem?_cons_succ, List.getElem?_cons_zero]; exact rfl)
          case hq10 => exact fun _ _ _ h => h
          case hw10 => rfl
          case hy10 => (intro w hSw; (try dsimp only at hSw); go_simp; try exact rfl)
          simp only [Act.put, List.setIfInBounds_toArray, List.set_cons_zero, List.set_cons_succ]
          refine wpAnyU_take (i := 14) (oi := ?o11) (v := ?v11) ?hi11 (by kernel_rfl) (by kernel_rfl) (by kernel_rfl) (by kernel_rfl) ?hq11 (Or.inl ⟨?hw11, ?hy11⟩) (by assumption) ?r11
          case hi11 => (simp only [List.getElem?_toArray, List.getElem?_cons_succ, List.getElem?_cons_zero]; exact rfl)
          case hq11 => exact fun _ _ _ h => h
          case hw11 => rfl
          case hy11 => (intro w hSw; (try dsimp only at hSw); go_simp; try exact rfl)
          simp only [Act.put, List.setIfInBounds_toArray, List.set_cons_zero, List.set_cons_succ]
          refine wpAnyU_take (i := 15) (oi := ?o12) (v := ?v12) ?hi12 (by kernel_rfl) (by kernel_rfl) (by kernel_rfl) (by kernel_rfl) ?hq12 (Or.inl ⟨?hw12, ?hy12⟩) (by assumption) ?r12
          case hi12 => (simp only [List.getElem?_toArray, List.getElem?_cons_succ, List.getElem?_cons_zero]; exact rfl)
          case hq12 => exact fun _ _ _ h => h
          case hw12 => rfl
          case hy12 => (intro w hSw; (try dsimp only at hSw); go_simp; try exact rfl)
          simp only [Act.put, List.setIfInBounds_toArray, List.set_cons_zero, List.set_cons_succ]
          refine wpAnyU_take (i := 16) (oi := ?o13) (v := ?v13) ?hi13 (by kernel_rfl) (by kernel_rfl) (by kernel_rfl) (by kernel_rfl) ?hq13 (Or.inl ⟨?hw13, ?hy13⟩) (by assumption) ?r13
          case hi13 => (simp only [List.getElem?_toArray, List.getElem?_cons_succ, List.getElem?_cons_zero]; exact rfl)
          case hq13 => exact fun _ _ _ h => h
          case hw13 => rfl
          case hy13 => (intro w hSw; (try dsimp only at hSw); go_simp; try exact rfl)
          simp only [Act.put, List.setIfInBounds_toArray, List.set_cons_zero, List.set_cons_succ]
          refine wpAnyU_take (i := 17) (oi := ?o14) (v := ?v14) ?hi14 (by kernel_rfl) (by kernel_rfl) (by kernel_rfl) (by kernel_rfl) ?hq14 (Or.inl ⟨?hw14, ?hy14⟩) (by assumption) ?r14
          case hi14 => (simp only [List.getElem?_toArray, List.getElem?_cons_succ, List.getElem?_cons_zero]; exact rfl)
          case hq14 => exact fun _ _ _ h => h
          case hw14 => rfl
          case hy14 => (intro w hSw; (try dsimp only at hSw); go_simp; try exact rfl)
          simp only [Act.put, List.setIfInBounds_toArray, List.set_cons_zero, List.set_cons_succ]
          refine wpAnyU_ready (rs := [1, 10]) (by kernel_rfl) (by simp) ?_
          refine AllReadyU.cons (o := ?o67) ?hi67 (fun K hK => ?_) (AllReadyU.cons (o := ?o68) ?hi68 (fun K hK => ?_) AllReadyU.nil)
          case hi67 => (simp only [List.getElem?_toArray, List.getElem?_cons_succ, List.getElem?_cons_zero]; exact rfl)
          case hi68 => (simp only [List.getElem?_toArray, List.getElem?_cons_succ, List.getElem?_cons_zero]; exact rfl)
          · go_simp
            have O0 := Kept.mk (World.ownsRow_made (base := N) (e := 3) (size := 1) wd #[] 0 (NB _ B0) (by unfold maxLen; omega) rfl)
            have B1 : Kept (Below N w (wd.alloc (.cells #[] 3))) := ⟨B0.out.alloc (NB _ B0) _⟩
            have hv : (Value.slice (some ⟨wd.heap.size, 0, none⟩) 0 0).ownBlock = some wd.heap.size := rfl
            have hlt1 : wd.heap.size < (wd.alloc (.cells #[] 3)).heap.size := by simp
            refine hK.out _ _ (fun _ => CS _ B1) (fun _ => ?_)
            clear hK K
            try simp only [Act.put, List.setIfInBounds_toArray, List.set_cons_zero, List.set_cons_succ]
            generalize wd.alloc (.cells #[] 3) = w1 at *
            generalize wd.heap.size = g0 at *
            refine wpAnyU_ready (rs := [8, 10]) (by kernel_rfl) (by simp) ?_
            refine AllReadyU.cons (o := ?o69) ?hi69 (fun K hK => ?_) (AllReadyU.cons (o := ?o70) ?hi70 (fun K hK => ?_) AllReadyU.nil)
            case hi69 => (simp only [List.getElem?_toArray, List.getElem?_cons_succ, List.getElem?_cons_zero]; exact rfl)
            case hi70 => (simp only [List.getElem?_toArray, List.getElem?_cons_succ, List.getElem?_cons_zero]; exact rfl)
            · refine step_append_ri rfl (.tmp 44) (.tmp 50) 46 (by rfl) N 3 Try.underlying46 info_int _ _ _ (by rfl) O0.out A1 k cap _ (by rfl) (RR1.out _ B1) (by omega) (NB _ B1) ?_
              intro v8 w8 o8 g8 b8 a8
              have B8 : Kept (Below N w w8) := ⟨B1.out.trans b8⟩
              refine hK.out _ _ (fun _ => CS _ B8) (fun _ => ?_)
              clear hK K
              try simp only [Act.put, List.setIfInBounds_toArray, List.set_cons_zero, List.set_cons_succ]
              refine wpAnyU_ready (rs := [10]) (by kernel_rfl) (by simp) ?_
              refine AllReadyU.cons (o := ?o29) ?hi29 (fun K hK => ?_) AllReadyU.nil
              case hi29 => (simp only [List.getElem?_toArray, List.getElem?_cons_succ, List.getElem?_cons_zero]; exact rfl)
              go_simp
              have RB := Kept.mk (Blk.new w8 3 #[.int .i64 (i : Int)])
              have O8 := Kept.mk (o8.out.alloc (.cells #[.int .i64 (i : Int)] 3))
              have B9 : Kept (Below N w (w8.alloc (.cells #[.int .i64 (i : Int)] 3))) := ⟨B8.out.alloc (NB _ B8) _⟩
              refine hK.out _ _ (fun _ => CS _ B9) (fun _ => ?_)
              clear hK K
              try simp only [Act.put, List.setIfInBounds_toArray, List.set_cons_zero, List.set_cons_succ]
              generalize w8.heap.size = gB at *
              refine wpAnyU_ready (rs := [11]) (by kernel_rfl) (by simp) ?_
              refine AllReadyU.cons (o := ?o51) ?hi51 (fun K hK => ?_) AllReadyU.nil
              case hi51 => (simp only [List.getElem?_toArray, List.getElem?_cons_succ, List.getElem?_cons_zero]; exact rfl)
              refine step_append_ri rfl (.tmp 51) (.tmp 53) 46 (by rfl) N 3 Try.underlying46 info_int _ _ _ (by rfl) O8.out (some ⟨gB, 0, none⟩) 1 1 _ (by rfl) (Ri.blk (xs := [(i : Int)]) RB.out rfl) (by omega) (NB _ B9) ?_
              intro v11 w11 o11 g11 b11 a11
              have B11 : Kept (Below N w w11) := ⟨B9.out.trans b11⟩
              refine hK.out _ _ (fun _ => CS _ B11) (fun _ => ?_)
              clear hK K
              try simp only [Act.put, List.setIfInBounds_toArray, List.set_cons_zero, List.set_cons_succ]
              refine wpAnyU_ready (rs := [18]) (by kernel_rfl) (by simp) ?_
              refine AllReadyU.cons (o := ?o52) ?hi52 (fun K hK => ?_) AllReadyU.nil
              case hi52 => (simp only [List.getElem?_toArray, List.getElem?_cons_succ, List.getElem?_cons_zero]; exact rfl)
              refine step_append_ri rfl (.tmp 54) (.tmp 60) 46 (by rfl) N 3 Try.underlying46 info_int _ _ _ (by rfl) o11.out A2 (p.length - k) (cap - k) _ (by rfl) (RR2.out _ B11) (by omega) (NB _ B11) ?_
              intro v18 w18 o18 g18 b18 a18
              have B18 : Kept (Below N w w18) := ⟨B11.out.trans b18⟩
              simp only [Nat.zero_add] at o18
              obtain ⟨A18, c18, rfl⟩ := own_shape o18.out
              refine hK.out _ _ (fun _ => CS _ B18) (fun _ => ?_)
              clear hK K
              try simp only [Act.put, List.setIfInBounds_toArray, List.set_cons_zero, List.set_cons_succ]
              refine wpAnyU_ready (rs := [19]) (by kernel_rfl) (by simp) ?_
              refine AllReadyU.cons (o := ?o30) ?hi30 (fun K hK => ?_) AllReadyU.nil
              case hi30 => (simp only [List.getElem?_toArray, List.getElem?_cons_succ, List.getElem?_cons_zero]; exact rfl)
              go_simp
              refine hK.out _ _ (fun _ => CS _ B18) (fun _ => ?_)
              clear hK K
              try simp only [Act.put, List.setIfInBounds_toArray, List.set_cons_zero, List.set_cons_succ]
              refine wpAnyU_ready (rs := [20]) (by kernel_rfl) (by simp) ?_
              refine AllReadyU.cons (o := ?o31) ?hi31 (fun K hK => ?_) AllReadyU.nil
              case hi31 => (simp only [List.getElem?_toArray, List.getElem?_cons_succ, List.getElem?_cons_zero]; exact rfl)
              go_simp
              refine hK.out _ _ (fun _ => CS _ B18) (fun _ => ?_)
              clear hK K
              try simp only [Act.put, List.setIfInBounds_toArray, List.set_cons_zero, List.set_cons_succ]
              have x2 := CS _ B18
              have z2 := (H1.out.below (HN.out ▸ B18.out) H1.out.lt).frozen 2
              refine wpAnyU_ready (rs := [21]) (by kernel_rfl) (by simp) ?_
              refine AllReadyU.cons (o := ?o32) ?hi32 (fun K hK => ?_) AllReadyU.nil
              case hi32 => (simp only [List.getElem?_toArray, List.getElem?_cons_succ, List.getElem?_cons_zero]; exact rfl)
              go_simp
              refine hK.out _ _ (fun h => absurd rfl h) (fun _ => ?_)
              clear hK K
              try simp only [Act.put, List.setIfInBounds_toArray, List.set_cons_zero, List.set_cons_succ]
              have FIN := dirty_fin (q := ins i p) HN.out H1.out H2.out H3.out H4.out B18.out (EQ.out _ _ o18.out)
              have FF := Kept.mk FIN
              clear FIN o18 o11 O8 x2 z2
              refine wpAnyU_done (by kernel_rfl) ?_ _
              refine NoPanic.normal ?_
              go_wp2
              go_end0
              rw [HP.out] at FF ⊢
              exact ⟨rfl, _, FF.out⟩
            · go_simp
              have RB := Kept.mk (Blk.new w1 3 #[.int .i64 (i : Int)])
              have O1 := Kept.mk (O0.out.alloc (.cells #[.int .i64 (i : Int)] 3))
              have B9 : Kept (Below N w (w1.alloc (.cells #[.int .i64 (i : Int)] 3))) := ⟨B1.out.alloc (NB _ B1) _⟩
              have hne : some w1.heap.size ≠ (Value.slice (some ⟨g0, 0, none⟩) 0 0).ownBlock := by rw [hv]; intro he; injection he with he; omega
              refine hK.out _ _ (fun _ => CS _ B9) (fun _ => ?_)
              clear hK K
              try simp only [Act.put, List.setIfInBounds_toArray, List.set_cons_zero, List.set_cons_succ]
              generalize w1.alloc (.cells #[.int .i64 (i : Int)] 3) = w2 at *
              generalize w1.heap.size = gB at *
              refine wpAnyU_ready (rs := [8]) (by kernel_rfl) (by simp) ?_
              refine AllReadyU.cons (o := ?o53) ?hi53 (fun K hK => ?_) AllReadyU.nil
              case hi53 => (simp only [List.getElem?_toArray, List.getElem?_cons_succ, List.getElem?_cons_zero]; exact rfl)
              refine step_append_ri rfl (.tmp 44) (.tmp 50) 46 (by rfl) N 3 Try.underlying46 info_int _ _ _ (by rfl) O1.out A1 k cap _ (by rfl) (RR1.out _ B9) (by omega) (NB _ B9) ?_
              intro v8 w8 o8 g8 b8 a8
              have B8 : Kept (Below N w w8) := ⟨B9.out.trans b8⟩
              replace RB := Kept.mk (RB.out.grown g8 hne)
              refine hK.out _ _ (fun _ => CS _ B8) (fun _ => ?_)
              clear hK K
              try simp only [Act.put, List.setIfInBounds_toArray, List.set_cons_zero, List.set_cons_succ]
              have O8 := o8
              refine wpAnyU_ready (rs := [11]) (by kernel_rfl) (by simp) ?_
              refine AllReadyU.cons (o := ?o54) ?hi54 (fun K hK => ?_) AllReadyU.nil
              case hi54 => (simp only [List.getElem?_toArray, List.getElem?_cons_succ, List.getElem?_cons_zero]; exact rfl)
              refine step_append_ri rfl (.tmp 51) (.tmp 53) 46 (by rfl) N 3 Try.underlying46 info_int _ _ _ (by rfl) O8.out (some ⟨gB, 0, none⟩) 1 1 _ (by rfl) (Ri.blk (xs := [(i : Int)]) RB.out rfl) (by omega) (NB _ B8) ?_
              intro v11 w11 o11 g11 b11 a11
              have B11 : Kept (Below N w w11) := ⟨B8.out.trans b11⟩
              refine hK.out _ _ (fun _ => CS _ B11) (fun _ => ?_)
              clear hK K
              try simp only [Act.put, List.setIfInBounds_toArray, List.set_cons_zero, List.set_cons_succ]
              refine wpAnyU_ready (rs := [18]) (by kernel_rfl) (by simp) ?_
              refine AllReadyU.cons (o := ?o55) ?hi55 (fun K hK => ?_) AllReadyU.nil
              case hi55 => (simp only [List.getElem?_toArray, List.getElem?_cons_succ, List.getElem?_cons_zero]; exact rfl)
              refine step_append_ri rfl (.tmp 54) (.tmp 60) 46 (by rfl) N 3 Try.underlying46 info_int _ _ _ (by rfl) o11.out A2 (p.length - k) (cap - k) _ (by rfl) (RR2.out _ B11) (by omega) (NB _ B11) ?_
              intro v18 w18 o18 g18 b18 a18
              have B18 : Kept (Below N w w18) := ⟨B11.out.trans b18⟩
              simp only [Nat.zero_add] at o18
              obtain ⟨A18, c18, rfl⟩ := own_shape o18.out
              refine hK.out _ _ (fun _ => CS _ B18) (fun _ => ?_)
              clear hK K
              try simp only [Act.put, List.setIfInBounds_toArray, List.set_cons_zero, List.set_cons_succ]
              refine wpAnyU_ready (rs := [19]) (by kernel_rfl) (by simp) ?_
              refine AllReadyU.cons (o := ?o33) ?hi33 (fun K hK => ?_) AllReadyU.nil
              case hi33 => (simp only [List.getElem?_toArray, List.getElem?_cons_succ, List.getElem?_cons_zero]; exact rfl)
              go_simp
              refine hK.out _ _ (fun _ => CS _ B18) (fun _ => ?_)
              clear hK K
              try simp only [Act.put, List.setIfInBounds_toArray, List.set_cons_zero, List.set_cons_succ]
              refine wpAnyU_ready (rs := [20]) (by kernel_rfl) (by simp) ?_
              refine AllReadyU.cons (o := ?o34) ?hi34 (fun K hK => ?_) AllReadyU.nil
              case hi34 => (simp only [List.getElem?_toArray, List.getElem?_cons_succ, List.getElem?_cons_zero]; exact rfl)
              go_simp
              refine hK.out _ _ (fun _ => CS _ B18) (fun _ => ?_)
              clear hK K
              try simp only [Act.put, List.setIfInBounds_toArray, List.set_cons_zero, List.set_cons_succ]
              have x2 := CS _ B18
              have z2 := (H1.out.below (HN.out ▸ B18.out) H1.out.lt).frozen 2
              refine wpAnyU_ready (rs := [21]) (by kernel_rfl) (by simp) ?_
              refine AllReadyU.cons (o := ?o35) ?hi35 (fun K hK => ?_) AllReadyU.nil
              case hi35 => (simp only [List.getElem?_toArray, List.getElem?_cons_succ, List.getElem?_cons_zero]; exact rfl)
              go_simp
              refine hK.out _ _ (fun h => absurd rfl h) (fun _ => ?_)
              clear hK K
              try simp only [Act.put, List.setIfInBounds_toArray, List.set_cons_zero, List.set_cons_succ]
              have FIN := dirty_fin (q := ins i p) HN.out H1.out H2.out H3.out H4.out B18.out (EQ.out _ _ o18.out)
              have FF := Kept.mk FIN
              clear FIN o18 o11 O8 x2 z2
              refine wpAnyU_done (by kernel_rfl) ?_ _
              refine NoPanic.normal ?_
              go_wp2
              go_end0
              rw [HP.out] at FF ⊢
              exact ⟨rfl, _, FF.out⟩
          · go_simp
            have RB := Kept.mk (Blk.new wd 3 #[.int .i64 (i : Int)])
            have B1 : Kept (Below N w (wd.alloc (.cells #[.int .i64 (i : Int)] 3))) := ⟨B0.out.alloc (NB _ B0) _⟩
            have hlt1 : wd.heap.size < (wd.alloc (.cells #[.int .i64 (i : Int)] 3)).heap.size := by simp
            refine hK.out _ _ (fun _ => CS _ B1) (fun _ => ?_)
            clear hK K
            try simp only [Act.put, List.setIfInBounds_toArray, List.set_cons_zero, List.set_cons_succ]
            generalize wd.alloc (.cells #[.int .i64 (i : Int)] 3) = w1 at *
            generalize wd.heap.size = gB at *
            refine wpAnyU_ready (rs := [1]) (by kernel_rfl) (by simp) ?_
            refine AllReadyU.cons (o := ?o36) ?hi36 (fun K hK => ?_) AllReadyU.nil
            case hi36 => (simp only [List.getElem?_toArray, List.getElem?_cons_succ, List.getElem?_cons_zero]; exact rfl)
            go_simp
            have O0 := Kept.mk (World.ownsRow_made (base := N) (e := 3) (size := 1) w1 #[] 0 (NB _ B1) (by unfold maxLen; omega) rfl)
            replace RB := Kept.mk (RB.out.alloc (.cells #[] 3))
            have B9 : Kept (Below N w (w1.alloc (.cells #[] 3))) := ⟨B1.out.alloc (NB _ B1) _⟩
            have hne : some gB ≠ (Value.slice (some ⟨w1.heap.size, 0, none⟩) 0 0).ownBlock := by simp [Value.ownBlock]; omega
            refine hK.out _ _ (fun _ => CS _ B9) (fun _ => ?_)
            clear hK K
            try simp only [Act.put, List.setIfInBounds_toArray, List.set_cons_zero, List.set_cons_succ]
            generalize w1.alloc (.cells #[] 3) = w2 at *
            generalize w1.heap.size = g0 at *
            refine wpAnyU_ready (rs := [8]) (by kernel_rfl) (by simp) ?_
            refine AllReadyU.cons (o := ?o56) ?hi56 (fun K hK => ?_) AllReadyU.nil
            case hi56 => (simp only [List.getElem?_toArray, List.getElem?_cons_succ, List.getElem?_cons_zero]; exact rfl)
            refine step_append_ri rfl (.tmp 44) (.tmp 50) 46 (by rfl) N 3 Try.underlying46 info_int _ _ _ (by rfl) O0.out A1 k cap _ (by rfl) (RR1.out _ B9) (by omega) (NB _ B9) ?_
            intro v8 w8 o8 g8 b8 a8
            have B8 : Kept (Below N w w8) := ⟨B9.out.trans b8⟩
            replace RB := Kept.mk (RB.out.grown g8 hne)
            refine hK.out _ _ (fun _ => CS _ B8) (fun _ => ?_)
            clear hK K
            try simp only [Act.put, List.setIfInBounds_toArray, List.set_cons_zero, List.set_cons_succ]
            have O8 := o8
            refine wpAnyU_ready (rs := [11]) (by kernel_rfl) (by simp) ?_
            refine AllReadyU.cons (o := ?o57) ?hi57 (fun K hK => ?_) AllReadyU.nil
            case hi57 => (simp only [List.getElem?_toArray, List.getElem?_cons_succ, List.getElem?_cons_zero]; exact rfl)
            refine step_append_ri rfl (.tmp 51) (.tmp 53) 46 (by rfl) N 3 Try.underlying46 info_int _ _ _ (by rfl) O8.out (some ⟨gB, 0, none⟩) 1 1 _ (by rfl) (Ri.blk (xs := [(i : Int)]) RB.out rfl) (by omega) (NB _ B8) ?_
            intro v11 w11 o11 g11 b11 a11
            have B11 : Kept (Below N w w11) := ⟨B8.out.trans b11⟩
            refine hK.out _ _ (fun _ => CS _ B11) (fun _ => ?_)
            clear hK K
            try simp only [Act.put, List.setIfInBounds_toArray, List.set_cons_zero, List.set_cons_succ]
            refine wpAnyU_ready (rs := [18]) (by kernel_rfl) (by simp) ?_
            refine AllReadyU.cons (o := ?o58) ?hi58 (fun K hK => ?_) AllReadyU.nil
            case hi58 => (simp only [List.getElem?_toArray, List.getElem?_cons_succ, List.getElem?_cons_zero]; exact rfl)
            refine step_append_ri rfl (.tmp 54) (.tmp 60) 46 (by rfl) N 3 Try.underlying46 info_int _ _ _ (by rfl) o11.out A2 (p.length - k) (cap - k) _ (by rfl) (RR2.out _ B11) (by omega) (NB _ B11) ?_
            intro v18 w18 o18 g18 b18 a18
            have B18 : Kept (Below N w w18) := ⟨B11.out.trans b18⟩
            simp only [Nat.zero_add] at o18
            obtain ⟨A18, c18, rfl⟩ := own_shape o18.out
            refine hK.out _ _ (fun _ => CS _ B18) (fun _ => ?_)
            clear hK K
            try simp only [Act.put, List.setIfInBounds_toArray, List.set_cons_zero, List.set_cons_succ]
            refine wpAnyU_ready (rs := [19]) (by kernel_rfl) (by simp) ?_
            refine AllReadyU.cons (o := ?o37) ?hi37 (fun K hK => ?_) AllReadyU.nil
            case hi37 => (simp only [List.getElem?_toArray, List.getElem?_cons_succ, List.getElem?_cons_zero]; exact rfl)
            go_simp
            refine hK.out _ _ (fun _ => CS _ B18) (fun _ => ?_)
            clear hK K
            try simp only [Act.put, List.setIfInBounds_toArray, List.set_cons_zero, List.set_cons_succ]
            refine wpAnyU_ready (rs := [20]) (by kernel_rfl) (by simp) ?_
            refine AllReadyU.cons (o := ?o38) ?hi38 (fun K hK => ?_) AllReadyU.nil
            case hi38 => (simp only [List.getElem?_toArray, List.getElem?_cons_succ, List.getElem?_cons_zero]; exact rfl)
            go_simp
            refine hK.out _ _ (fun _ => CS _ B18) (fun _ => ?_)
            clear hK K
            try simp only [Act.put, List.setIfInBounds_toArray, List.set_cons_zero, List.set_cons_succ]
            have x2 := CS _ B18
            have z2 := (H1.out.below (HN.out ▸ B18.out) H1.out.lt).frozen 2
            refine wpAnyU_ready (rs := [21]) (by kernel_rfl) (by simp) ?_
            refine AllReadyU.cons (o := ?o39) ?hi39 (fun K hK => ?_) AllReadyU.nil
            case hi39 => (simp only [List.getElem?_toArray, List.getElem?_cons_succ, List.getElem?_cons_zero]; exact rfl)
            go_simp
            refine hK.out _ _ (fun h => absurd rfl h) (fun _ => ?_)
            clear hK K
            try simp only [Act.put, List.setIfInBounds_toArray, List.set_cons_zero, List.set_cons_succ]
            have FIN := dirty_fin (q := ins i p) HN.out H1.out H2.out H3.out H4.out B18.out (EQ.out _ _ o18.out)
            have FF := Kept.mk FIN
            clear FIN o18 o11 O8 x2 z2
            refine wpAnyU_done (by kernel_rfl) ?_ _
            refine NoPanic.normal ?_
            go_wp2
            go_end0
            rw [HP.out] at FF ⊢
            exact ⟨rfl, _, FF.out⟩
    · have hkl' : ¬ (k : Int) < p.length := by omega
      have HI := Kept.mk (ins_split i p k hk HK.out (fun hh => absurd hh hkl))
      rw [if_neg (fun hc => hkl hc.1)] at HI
      go_wp2
      obtain ⟨hcap, hcap2, rp⟩ := own_ri (pints_nums p ▸ H5.out)
      obtain ⟨A1, hs1, r1⟩ := islice_h rp hcap k hk k rfl
      obtain ⟨A2, hs2, r2⟩ := islice_l rp hcap k hk k rfl
      obtain ⟨N, hN⟩ : ∃ N, w.heap.size = N := ⟨_, rfl⟩
      have HN := Kept.mk hN
      have CS : ∀ wx, Kept (Below N w wx) → wx.cell? ⟨d, 2, none⟩ = some (.slice A p.length cap) := fun wx B => by
        rw [B.out.cell (by rw [← HN.out]; exact H1.out.lt)]; exact c2
      have NB : ∀ wx, Kept (Below N w wx) → N ≤ wx.heap.size := fun wx B => by rw [← HN.out]; exact B.out.size
      have RR1 := Kept.mk fun wx (B : Kept (Below N w wx)) => r1.below (by rw [HN.out]; exact B.out)
      have RR2 := Kept.mk fun wx (B : Kept (Below N w wx)) => r2.below (by rw [HN.out]; exact B.out)
      have EQ : Kept (∀ (v : Value) (wx : World), wx.ownsRow N 3 1 v (k + 1 + (p.length - k)) ([] ++ ints .i64 ((nums p).take k) ++ ints .i64 [(i : Int)] ++ ints .i64 ((nums p).drop k)) → wx.ownsRow N 3 1 v (ins i p).length (pints (ins i p))) := ⟨fun v wx o => by
        have e1 : [] ++ ints .i64 ((nums p).take k) ++ ints .i64 [(i : Int)] ++ ints .i64 ((nums p).drop k) = pints (ins i p) := by
          rw [HI.out]; simp [pints_nums, ints, nums, List.map_take, List.map_drop]
        have e2 : k + 1 + (p.length - k) = (ins i p).length := by
          rw [HI.out]; simp; omega
        rw [e1, e2] at o
        exact o⟩
      clear HK r1 r2 rp hN
      have B0 : Kept (Below N w w.drew) := ⟨(Below.refl N w).drew⟩
      refine wp_region_noPanic ?_
      refine wp_region_U 21 (S := fun w' : World => w'.cell? ⟨d, 2, none⟩ = some (.slice A p.length cap)) (by kernel_rfl) (CS _ B0) (fun _ => ?_)
      generalize w.drew = wd at *
      refine wpAnyU_take (i := 0) (oi := ?o15) (v := ?v15) ?hi15 (by kernel_rfl) (by kernel_rfl) (by kernel_rfl) (by kernel_rfl) ?hq15 (Or.inl ⟨?hw15, ?hy15⟩) (by assumption) ?r15
      case hi15 => (simp only [List.getElem?_toArray, List.getElem?_cons_zero]; exact rfl)
      case hq15 => exact fun _ _ _ h => h
      case hw15 => rfl
      case hy15 => (intro w hSw; (try dsimp only at hSw); go_simp; try exact rfl)
      simp only [Act.put, List.setIfInBounds_toArray, List.set_cons_zero, List.set_cons_succ]
      refine wpAnyU_take (i := 2) (oi := ?o16) (v := ?v16) ?hi16 (by kernel_rfl) (by kernel_rfl) (by kernel_rfl) (by kernel_rfl) ?hq16 (Or.inl ⟨?hw16, ?hy16⟩) (by assumption) ?r16
      case hi16 => (simp only [List.getElem?_toArray, List.getElem?_cons_succ, List.getElem?_cons_zero]; exact rfl)
      case hq16 => exact fun _ _ _ h => h
      case hw16 => rfl
      case hy16 => (intro w hSw; (try dsimp only at hSw); go_simp; try exact rfl)
      simp only [Act.put, List.setIfInBounds_toArray, List.set_cons_zero, List.set_cons_succ]
      refine wpAnyU_take (i := 3) (oi := ?o17) (v := ?v17) ?hi17 (by kernel_rfl) (by kernel_rfl) (by kernel_rfl) (by kernel_rfl) ?hq17 (Or.inl ⟨?hw17, ?hy17⟩) (by assumption) ?r17
      case hi17 => (simp only [List.getElem?_toArray, List.getElem?_cons_succ, List.getElem?_cons_zero]; exact rfl)
      case hq17 => exact fun _ _ _ h => h
      case hw17 => rfl
      case hy17 => (intro w hSw; (try dsimp only at hSw); go_simp; try exact rfl)
      simp only [Act.put, List.setIfInBounds_toArray, List.set_cons_zero, List.set_cons_succ]
      refine wpAnyU_take (i := 4) (oi := ?o18) (v := ?v18) ?hi18 (by kernel_rfl) (by kernel_rfl) (by kernel_rfl) (by kernel_rfl) ?hq18 (Or.inl ⟨?hw18, ?hy18⟩) (by assumption) ?r18
      case hi18 => (simp only [List.getElem?_toArray, List.getElem?_cons_succ, List.getElem?_cons_zero]; exact rfl)
      case hq18 => exact fun _ _ _ h => h
      case hw18 => rfl
      case hy18 => (intro w hSw; (try dsimp only at hSw); go_simp; try exact rfl)
      simp only [Act.put, List.setIfInBounds_toArray, List.set_cons_zero, List.set_cons_succ]
      refine wpAnyU_take (i := 5) (oi := ?o19) (v := ?v19) ?hi19 (by kernel_rfl) (by kernel_rfl) (by kernel_rfl) (by kernel_rfl) ?hq19 (Or.inl ⟨?hw19, ?hy19⟩) (by assumption) ?r19
      case hi19 => (simp only [List.getElem?_toArray, List.getElem?_cons_succ, List.getElem?_cons_zero]; exact rfl)
      case hq19 => exact fun _ _ _ h => h
      case hw19 => rfl
      case hy19 => (intro w hSw; (try dsimp only at hSw); go_simp; try exact rfl)
      simp only [Act.put, List.setIfInBounds_toArray, List.set_cons_zero, List.set_cons_succ]
      refine wpAnyU_take (i := 6) (oi := ?o20) (v := ?v20) ?hi20 (by kernel_rfl) (by kernel_rfl) (by kernel_rfl) (by kernel_rfl) ?hq20 (Or.inl ⟨?hw20, ?hy20⟩) (by assumption) ?r20
      case hi20 => (simp only [List.getElem?_toArray, List.getElem?_cons_succ, List.getElem?_cons_zero]; exact rfl)
      case hq20 => exact fun _ _ _ h => h
      case hw20 => rfl
      case hy20 => (intro w hSw; (try dsimp only at hSw); go_simp; try exact rfl)
      simp only [Act.put, List.setIfInBounds_toArray, List.set_cons_zero, List.set_cons_succ]
      refine wpAnyU_take (i := 7) (oi := ?o21) (v := ?v21) ?hi21 (by kernel_rfl) (by kernel_rfl) (by kernel_rfl) (by kernel_rfl) ?hq21 (Or.inl ⟨?hw21, ?hy21⟩) (by assumption) ?r21
      case hi21 => (simp only [List.getElem?_toArray, List.getElem?_cons_succ, List.getElem?_cons_zero]; exact rfl)
      case hq21 => exact fun _ _ _ h => h
      case hw21 => rfl
      case hy21 => (intro w hSw; (try dsimp only at hSw); go_simp; try exact rfl)
      simp only [Act.put, List.setIfInBounds_toArray, List.set_cons_zero, List.set_cons_succ]
      refine wpAnyU_take (i := 9) (oi := ?o22) (v := ?v22) ?hi22 (by kernel_rfl) (by kernel_rfl) (by kernel_rfl) (by kernel_rfl) ?hq22 (Or.inl ⟨?hw22, ?hy22⟩) (by assumption) ?r22
      case hi22 => (simp only [List.getElem?_toArray, List.getElem?_cons_succ, List.getElem?_cons_zero]; exact rfl)
      case hq22 => exact fun _ _ _ h => h
      case hw22 => rfl
      case hy22 => (intro w hSw; (try dsimp only at hSw); go_simp; try exact rfl)
      simp only [Act.put, List.setIfInBounds_toArray, List.set_cons_zero, List.set_cons_succ]
      refine wpAnyU_take (i := 12) (oi := ?o23) (v := ?v23) ?hi23 (by kernel_rfl) (by kernel_rfl) (by kernel_rfl) (by kernel_rfl) ?hq23 (Or.inl ⟨?hw23, ?hy23⟩) (by assumption) ?r23
      case hi23 => (simp only [List.getElem?_toArray, List.getElem?_cons_succ, List.getElem?_cons_zero]; exact rfl)
      case hq23 => exact fun _ _ _ h => h
      case hw23 => rfl
      case hy23 => (intro w hSw; (try dsimp only at hSw); go_simp; try exact rfl)
      simp only [Act.put, List.setIfInBounds_toArray, List.set_cons_zero, List.set_cons_succ]
      refine wpAnyU_take (i := 13) (oi := ?o24) (v := ?v24) ?hi24 (by kernel_rfl) (by kernel_rfl) (by kernel_rfl) (by kernel_rfl) ?hq24 (Or.inl ⟨?hw24, ?hy24⟩) (by assumption) ?r24
      case hi24 => (simp only [List.getElem?_toArray, List.getElem?_cons_succ, List.getElem?_cons_zero]; exact rfl)
      case hq24 => exact fun _ _ _ h => h
      case hw24 => rfl
      case hy24 => (intro w hSw; (try dsimp only at hSw); go_simp; try exact rfl)
      simp only [Act.put, List.setIfInBounds_toArray, List.set_cons_zero, List.set_cons_succ]
      refine wpAnyU_take (i := 14) (oi := ?o25) (v := ?v25) ?hi25 (by kernel_rfl) (by kernel_rfl) (by kernel_rfl) (by kernel_rfl) ?hq25 (Or.inl ⟨?hw25, ?hy25⟩) (by assumption) ?r25
      case hi25 => (simp only [List.getElem?_toArray, List.getElem?_cons_succ, List.getElem?_cons_zero]; exact rfl)
      case hq25 => exact fun _ _ _ h => h
      case hw25 => rfl
      case hy25 => (intro w hSw; (try dsimp only at hSw); go_simp; try exact rfl)
      simp only [Act.put, List.setIfInBounds_toArray, List.set_cons_zero, List.set_cons_succ]
      refine wpAnyU_take (i := 15) (oi := ?o26) (v := ?v26) ?hi26 (by kernel_rfl) (by kernel_rfl) (by kernel_rfl) (by kernel_rfl) ?hq26 (Or.inl ⟨?hw26, ?hy26⟩) (by assumption) ?r26
      case hi26 => (simp only [List.getElem?_toArray, List.getElem?_cons_succ, List.getElem?_cons_zero]; exact rfl)
      case hq26 => exact fun _ _ _ h => h
      case hw26 => rfl
      case hy26 => (intro w hSw; (try dsimp only at hSw); go_simp; try exact rfl)
      simp only [Act.put, List.setIfInBounds_toArray, List.set_cons_zero, List.set_cons_succ]
      refine wpAnyU_take (i := 16) (oi := ?o27) (v := ?v27) ?hi27 (by kernel_rfl) (by kernel_rfl) (by kernel_rfl) (by kernel_rfl) ?hq27 (Or.inl ⟨?hw27, ?hy27⟩) (by assumption) ?r27
      case hi27 => (simp only [List.getElem?_toArray, List.getElem?_cons_succ, List.getElem?_cons_zero]; exact rfl)
      case hq27 => exact fun _ _ _ h => h
      case hw27 => rfl
      case hy27 => (intro w hSw; (try dsimp only at hSw); go_simp; try exact rfl)
      simp only [Act.put, List.setIfInBounds_toArray, List.set_cons_zero, List.set_cons_succ]
      refine wpAnyU_take (i := 17) (oi := ?o28) (v := ?v28) ?hi28 (by kernel_rfl) (by kernel_rfl) (by kernel_rfl) (by kernel_rfl) ?hq28 (Or.inl ⟨?hw28, ?hy28⟩) (by assumption) ?r28
      case hi28 => (simp only [List.getElem?_toArray, List.getElem?_cons_succ, List.getElem?_cons_zero]; exact rfl)
      case hq28 => exact fun _ _ _ h => h
      case hw28 => rfl
      case hy28 => (intro w hSw; (try dsimp only at hSw); go_simp; try exact rfl)
      simp only [Act.put, List.setIfInBounds_toArray, List.set_cons_zero, List.set_cons_succ]
      refine wpAnyU_ready (rs := [1, 10]) (by kernel_rfl) (by simp) ?_
      refine AllReadyU.cons (o := ?o71) ?hi71 (fun K hK => ?_) (AllReadyU.cons (o := ?o72) ?hi72 (fun K hK => ?_) AllReadyU.nil)
      case hi71 => (simp only [List.getElem?_toArray, List.getElem?_cons_succ, List.getElem?_cons_zero]; exact rfl)
      case hi72 => (simp only [List.getElem?_toArray, List.getElem?_cons_succ, List.getElem?_cons_zero]; exact rfl)
      · go_simp
        have O0 := Kept.mk (World.ownsRow_made (base := N) (e := 3) (size := 1) wd #[] 0 (NB _ B0) (by unfold maxLen; omega) rfl)
        have B1 : Kept (Below N w (wd.alloc (.cells #[] 3))) := ⟨B0.out.alloc (NB _ B0) _⟩
        have hv : (Value.slice (some ⟨wd.heap.size, 0, none⟩) 0 0).ownBlock = some wd.heap.size := rfl
        have hlt1 : wd.heap.size < (wd.alloc (.cells #[] 3)).heap.size := by simp
        refine hK.out _ _ (fun _ => CS _ B1) (fun _ => ?_)
        clear hK K
        try simp only [Act.put, List.setIfInBounds_toArray, List.set_cons_zero, List.set_cons_succ]
        generalize wd.alloc (.cells #[] 3) = w1 at *
        generalize wd.heap.size = g0 at *
        refine wpAnyU_ready (rs := [8, 10]) (by kernel_rfl) (by simp) ?_
        refine AllReadyU.cons (o := ?o73) ?hi73 (fun K hK => ?_) (AllReadyU.cons (o := ?o74) ?hi74 (fun K hK => ?_) AllReadyU.nil)
        case hi73 => (simp only [List.getElem?_toArray, List.getElem?_cons_succ, List.getElem?_cons_zero]; exact rfl)
        case hi74 => (simp only [List.getElem?_toArray, List.getElem?_cons_succ, List.getElem?_cons_zero]; exact rfl)
        · refine step_append_ri rfl (.tmp 44) (.tmp 50) 46 (by rfl) N 3 Try.underlying46 info_int _ _ _ (by rfl) O0.out A1 k cap _ (by rfl) (RR1.out _ B1) (by omega) (NB _ B1) ?_
          intro v8 w8 o8 g8 b8 a8
          have B8 : Kept (Below N w w8) := ⟨B1.out.trans b8⟩
          refine hK.out _ _ (fun _ => CS _ B8) (fun _ => ?_)
          clear hK K
          try simp only [Act.put, List.setIfInBounds_toArray, List.set_cons_zero, List.set_cons_succ]
          refine wpAnyU_ready (rs := [10]) (by kernel_rfl) (by simp) ?_
          refine AllReadyU.cons (o := ?o40) ?hi40 (fun K hK => ?_) AllReadyU.nil
          case hi40 => (simp only [List.getElem?_toArray, List.getElem?_cons_succ, List.getElem?_cons_zero]; exact rfl)
          go_simp
          have RB := Kept.mk (Blk.new w8 3 #[.int .i64 (i : Int)])
          have O8 := Kept.mk (o8.out.alloc (.cells #[.int .i64 (i : Int)] 3))
          have B9 : Kept (Below N w (w8.alloc (.cells #[.int .i64 (i : Int)] 3))) := ⟨B8.out.alloc (NB _ B8) _⟩
          refine hK.out _ _ (fun _ => CS _ B9) (fun _ => ?_)
          clear hK K
          try simp only [Act.put, List.setIfInBounds_toArray, List.set_cons_zero, List.set_cons_succ]
          generalize w8.heap.size = gB at *
          refine wpAnyU_ready (rs := [11]) (by kernel_rfl) (by simp) ?_
          refine AllReadyU.cons (o := ?o59) ?hi59 (fun K hK => ?_) AllReadyU.nil
          case hi59 => (simp only [List.getElem?_toArray, List.getElem?_cons_succ, List.getElem?_cons_zero]; exact rfl)
          refine step_append_ri rfl (.tmp 51) (.tmp 53) 46 (by rfl) N 3 Try.underlying46 info_int _ _ _ (by rfl) O8.out (some ⟨gB, 0, none⟩) 1 1 _ (by rfl) (Ri.blk (xs := [(i : Int)]) RB.out rfl) (by omega) (NB _ B9) ?_
          intro v11 w11 o11 g11 b11 a11
          have B11 : Kept (Below N w w11) := ⟨B9.out.trans b11⟩
          refine hK.out _ _ (fun _ => CS _ B11) (fun _ => ?_)
          clear hK K
          try simp only [Act.put, List.setIfInBounds_toArray, List.set_cons_zero, List.set_cons_succ]
          refine wpAnyU_ready (rs := [18]) (by kernel_rfl) (by simp) ?_
          refine AllReadyU.cons (o := ?o60) ?hi60 (fun K hK => ?_) AllReadyU.nil
          case hi60 => (simp only [List.getElem?_toArray, List.getElem?_cons_succ, List.getElem?_cons_zero]; exact rfl)
          refine step_append_ri rfl (.tmp 54) (.tmp 60) 46 (by rfl) N 3 Try.underlying46 info_int _ _ _ (by rfl) o11.out A2 (p.length - k) (cap - k) _ (by rfl) (RR2.out _ B11) (by omega) (NB _ B11) ?_
          intro v18 w18 o18 g18 b18 a18
          have B18 : Kept (Below N w w18) := ⟨B11.out.trans b18⟩
          simp only [Nat.zero_add] at o18
          obtain ⟨A18, c18, rfl⟩ := own_shape o18.out
          refine hK.out _ _ (fun _ => CS _ B18) (fun _ => ?_)
          clear hK K
          try simp only [Act.put, List.setIfInBounds_toArray, List.set_cons_zero, List.set_cons_succ]
          refine wpAnyU_ready (rs := [19]) (by kernel_rfl) (by simp) ?_
          refine AllReadyU.cons (o := ?o41) ?hi41 (fun K hK => ?_) AllReadyU.nil
          case hi41 => (simp only [List.getElem?_toArray, List.getElem?_cons_succ, List.getElem?_cons_zero]; exact rfl)
          go_simp
          refine hK.out _ _ (fun _ => CS _ B18) (fun _ => ?_)
          clear hK K
          try simp only [Act.put, List.setIfInBounds_toArray, List.set_cons_zero, List.set_cons_succ]
          refine wpAnyU_ready (rs := [20]) (by kernel_rfl) (by simp) ?_
          refine AllReadyU.cons (o := ?o42) ?hi42 (fun K hK => ?_) AllReadyU.nil
          case hi42 => (simp only [List.getElem?_toArray, List.getElem?_cons_succ, List.getElem?_cons_zero]; exact rfl)
          go_simp
          refine hK.out _ _ (fun _ => CS _ B18) (fun _ => ?_)
          clear hK K
          try simp only [Act.put, List.setIfInBounds_toArray, List.set_cons_zero, List.set_cons_succ]
          have x2 := CS _ B18
          have z2 := (H1.out.below (HN.out ▸ B18.out) H1.out.lt).frozen 2
          refine wpAnyU_ready (rs := [21]) (by kernel_rfl) (by simp) ?_
          refine AllReadyU.cons (o := ?o43) ?hi43 (fun K hK => ?_) AllReadyU.nil
          case hi43 => (simp only [List.getElem?_toArray, List.getElem?_cons_succ, List.getElem?_cons_zero]; exact rfl)
          go_simp
          refine hK.out _ _ (fun h => absurd rfl h) (fun _ => ?_)
          clear hK K
          try simp only [Act.put, List.setIfInBounds_toArray, List.set_cons_zero, List.set_cons_succ]
          have FIN := dirty_fin (q := ins i p) HN.out H1.out H2.out H3.out H4.out B18.out (EQ.out _ _ o18.out)
          have FF := Kept.mk FIN
          clear FIN o18 o11 O8 x2 z2
          refine wpAnyU_done (by kernel_rfl) ?_ _
          refine NoPanic.normal ?_
          go_wp2
          go_end0
          rw [HP.out] at FF ⊢
          exact ⟨rfl, _, FF.out⟩
        · go_simp
          have RB := Kept.mk (Blk.new w1 3 #[.int .i64 (i : Int)])
          have O1 := Kept.mk (O0.out.alloc (.cells #[.int .i64 (i : Int)] 3))
          have B9 : Kept (Below N w (w1.alloc (.cells #[.int .i64 (i : Int)] 3))) := ⟨B1.out.alloc (NB _ B1) _⟩
          have hne : some w1.heap.size ≠ (Value.slice (some ⟨g0, 0, none⟩) 0 0).ownBlock := by rw [hv]; intro he; injection he with he; omega
          refine hK.out _ _ (fun _ => CS _ B9) (fun _ => ?_)
          clear hK K
          try simp only [Act.put, List.setIfInBounds_toArray, List.set_cons_zero, List.set_cons_succ]
          generalize w1.alloc (.cells #[.int .i64 (i : Int)] 3) = w2 at *
          generalize w1.heap.size = gB at *
          refine wpAnyU_ready (rs := [8]) (by kernel_rfl) (by simp) ?_
          refine AllReadyU.cons (o := ?o61) ?hi61 (fun K hK => ?_) AllReadyU.nil
          case hi61 => (simp only [List.getElem?_toArray, List.getElem?_cons_succ, List.getElem?_cons_zero]; exact rfl)
          refine step_append_ri rfl (.tmp 44) (.tmp 50) 46 (by rfl) N 3 Try.underlying46 info_int _ _ _ (by rfl) O1.out A1 k cap _ (by rfl) (RR1.out _ B9) (by omega) (NB _ B9) ?_
          intro v8 w8 o8 g8 b8 a8
          have B8 : Kept (Below N w w8) := ⟨B9.out.trans b8⟩
          replace RB := Kept.mk (RB.out.grown g8 hne)
          refine hK.out _ _ (fun _ => CS _ B8) (fun _ => ?_)
          clear hK K
          try simp only [Act.put, List.setIfInBounds_toArray, List.set_cons_zero, List.set_cons_succ]
          have O8 := o8
          refine wpAnyU_ready (rs := [11]) (by kernel_rfl) (by simp) ?_
          refine AllReadyU.cons (o := ?o62) ?hi62 (fun K hK => ?_) AllReadyU.nil
          case hi62 => (simp only [List.getElem?_toArray, List.getElem?_cons_succ, List.getElem?_cons_zero]; exact rfl)
          refine step_append_ri rfl (.tmp 51) (.tmp 53) 46 (by rfl) N 3 Try.underlying46 info_int _ _ _ (by rfl) O8.out (some ⟨gB, 0, none⟩) 1 1 _ (by rfl) (Ri.blk (xs := [(i : Int)]) RB.out rfl) (by omega) (NB _ B8) ?_
          intro v11 w11 o11 g11 b11 a11
          have B11 : Kept (Below N w w11) := ⟨B8.out.trans b11⟩
          refine hK.out _ _ (fun _ => CS _ B11) (fun _ => ?_)
          clear hK K
          try simp only [Act.put, List.setIfInBounds_toArray, List.set_cons_zero, List.set_cons_succ]
          refine wpAnyU_ready (rs := [18]) (by kernel_rfl) (by simp) ?_
          refine AllReadyU.cons (o := ?o63) ?hi63 (fun K hK => ?_) AllReadyU.nil
          case hi63 => (simp only [List.getElem?_toArray, List.getElem?_cons_succ, List.getElem?_cons_zero]; exact rfl)
          refine step_append_ri rfl (.tmp 54) (.tmp 60) 46 (by rfl) N 3 Try.underlying46 info_int _ _ _ (by rfl) o11.out A2 (p.length - k) (cap - k) _ (by rfl) (RR2.out _ B11) (by omega) (NB _ B11) ?_
          intro v18 w18 o18 g18 b18 a18
          have B18 : Kept (Below N w w18) := ⟨B11.out.trans b18⟩
          simp only [Nat.zero_add] at o18
          obtain ⟨A18, c18, rfl⟩ := own_shape o18.out
          refine hK.out _ _ (fun _ => CS _ B18) (fun _ => ?_)
          clear hK K
          try simp only [Act.put, List.setIfInBounds_toArray, List.set_cons_zero, List.set_cons_succ]
          refine wpAnyU_ready (rs := [19]) (by kernel_rfl) (by simp) ?_
          refine AllReadyU.cons (o := ?o44) ?hi44 (fun K hK => ?_) AllReadyU.nil
          case hi44 => (simp only [List.getElem?_toArray, List.getElem?_cons_succ, List.getElem?_cons_zero]; exact rfl)
          go_simp
          refine hK.out _ _ (fun _ => CS _ B18) (fun _ => ?_)
          clear hK K
          try simp only [Act.put, List.setIfInBounds_toArray, List.set_cons_zero, List.set_cons_succ]
          refine wpAnyU_ready (rs := [20]) (by kernel_rfl) (by simp) ?_
          refine AllReadyU.cons (o := ?o45) ?hi45 (fun K hK => ?_) AllReadyU.nil
          case hi45 => (simp only [List.getElem?_toArray, List.getElem?_cons_succ, List.getElem?_cons_zero]; exact rfl)
          go_simp
          refine hK.out _ _ (fun _ => CS _ B18) (fun _ => ?_)
          clear hK K
          try simp only [Act.put, List.setIfInBounds_toArray, List.set_cons_zero, List.set_cons_succ]
          have x2 := CS _ B18
          have z2 := (H1.out.below (HN.out ▸ B18.out) H1.out.lt).frozen 2
          refine wpAnyU_ready (rs := [21]) (by kernel_rfl) (by simp) ?_
          refine AllReadyU.cons (o := ?o46) ?hi46 (fun K hK => ?_) AllReadyU.nil
          case hi46 => (simp only [List.getElem?_toArray, List.getElem?_cons_succ, List.getElem?_cons_zero]; exact rfl)
          go_simp
          refine hK.out _ _ (fun h => absurd rfl h) (fun _ => ?_)
          clear hK K
          try simp only [Act.put, List.setIfInBounds_toArray, List.set_cons_zero, List.set_cons_succ]
          have FIN := dirty_fin (q := ins i p) HN.out H1.out H2.out H3.out H4.out B18.out (EQ.out _ _ o18.out)
          have FF := Kept.mk FIN
          clear FIN o18 o11 O8 x2 z2
          refine wpAnyU_done (by kernel_rfl) ?_ _
          refine NoPanic.normal ?_
          go_wp2
          go_end0
          rw [HP.out] at FF ⊢
          exact ⟨rfl, _, FF.out⟩
      · go_simp
        have RB := Kept.mk (Blk.new wd 3 #[.int .i64 (i : Int)])
        have B1 : Kept (Below N w (wd.alloc (.cells #[.int .i64 (i : Int)] 3))) := ⟨B0.out.alloc (NB _ B0) _⟩
        have hlt1 : wd.heap.size < (wd.alloc (.cells #[.int .i64 (i : Int)] 3)).heap.size := by simp
        refine hK.out _ _ (fun _ => CS _ B1) (fun _ => ?_)
        clear hK K
        try simp only [Act.put, List.setIfInBounds_toArray, List.set_cons_zero, List.set_cons_succ]
        generalize wd.alloc (.cells #[.int .i64 (i : Int)] 3) = w1 at *
        generalize wd.heap.size = gB at *
        refine wpAnyU_ready (rs := [1]) (by kernel_rfl) (by simp) ?_
        refine AllReadyU.cons (o := ?o47) ?hi47 (fun K hK => ?_) AllReadyU.nil
        case hi47 => (simp only [List.getElem?_toArray, List.getElem?_cons_succ, List.getElem?_cons_zero]; exact rfl)
        go_simp
        have O0 := Kept.mk (World.ownsRow_made (base := N) (e := 3) (size := 1) w1 #[] 0 (NB _ B1) (by unfold maxLen; omega) rfl)
        replace RB := Kept.mk (RB.out.alloc (.cells #[] 3))
        have B9 : Kept (Below N w (w1.alloc (.cells #[] 3))) := ⟨B1.out.alloc (NB _ B1) _⟩
        have hne : some gB ≠ (Value.slice (some ⟨w1.heap.size, 0, none⟩) 0 0).ownBlock := by simp [Value.ownBlock]; omega
        refine hK.out _ _ (fun _ => CS _ B9) (fun _ => ?_)
        clear hK K
        try simp only [Act.put, List.setIfInBounds_toArray, List.set_cons_zero, List.set_cons_succ]
        generalize w1.alloc (.cells #[] 3) = w2 at *
        generalize w1.heap.size = g0 at *
        refine wpAnyU_ready (rs := [8]) (by kernel_rfl) (by simp) ?_
        refine AllReadyU.cons (o := ?o64) ?hi64 (fun K hK => ?_) AllReadyU.nil
        case hi64 => (simp only [List.getElem?_toArray, List.getElem?_cons_succ, List.getElem?_cons_zero]; exact rfl)
        refine step_append_ri rfl (.tmp 44) (.tmp 50) 46 (by rfl) N 3 Try.underlying46 info_int _ _ _ (by rfl) O0.out A1 k cap _ (by rfl) (RR1.out _ B9) (by omega) (NB _ B9) ?_
        intro v8 w8 o8 g8 b8 a8
        have B8 : Kept (Below N w w8) := ⟨B9.out.trans b8⟩
        replace RB := Kept.mk (RB.out.grown g8 hne)
        refine hK.out _ _ (fun _ => CS _ B8) (fun _ => ?_)
        clear hK K
        try simp only [Act.put, List.setIfInBounds_toArray, List.set_cons_zero, List.set_cons_succ]
        have O8 := o8
        refine wpAnyU_ready (rs := [11]) (by kernel_rfl) (by simp) ?_
        refine AllReadyU.cons (o := ?o65) ?hi65 (fun K hK => ?_) AllReadyU.nil
        case hi65 => (simp only [List.getElem?_toArray, List.getElem?_cons_succ, List.getElem?_cons_zero]; exact rfl)
        refine step_append_ri rfl (.tmp 51) (.tmp 53) 46 (by rfl) N 3 Try.underlying46 info_int _ _ _ (by rfl) O8.out (some ⟨gB, 0, none⟩) 1 1 _ (by rfl) (Ri.blk (xs := [(i : Int)]) RB.out rfl) (by omega) (NB _ B8) ?_
        intro v11 w11 o11 g11 b11 a11
        have B11 : Kept (Below N w w11) := ⟨B8.out.trans b11⟩
        refine hK.out _ _ (fun _ => CS _ B11) (fun _ => ?_)
        clear hK K
        try simp only [Act.put, List.setIfInBounds_toArray, List.set_cons_zero, List.set_cons_succ]
        refine wpAnyU_ready (rs := [18]) (by kernel_rfl) (by simp) ?_
        refine AllReadyU.cons (o := ?o66) ?hi66 (fun K hK => ?_) AllReadyU.nil
        case hi66 => (simp only [List.getElem?_toArray, List.getElem?_cons_succ, List.getElem?_cons_zero]; exact rfl)
        refine step_append_ri rfl (.tmp 54) (.tmp 60) 46 (by rfl) N 3 Try.underlying46 info_int _ _ _ (by rfl) o11.out A2 (p.length - k) (cap - k) _ (by rfl) (RR2.out _ B11) (by omega) (NB _ B11) ?_
        intro v18 w18 o18 g18 b18 a18
        have B18 : Kept (Below N w w18) := ⟨B11.out.trans b18⟩
        simp only [Nat.zero_add] at o18
        obtain ⟨A18, c18, rfl⟩ := own_shape o18.out
        refine hK.out _ _ (fun _ => CS _ B18) (fun _ => ?_)
        clear hK K
        try simp only [Act.put, List.setIfInBounds_toArray, List.set_cons_zero, List.set_cons_succ]
        refine wpAnyU_ready (rs := [19]) (by kernel_rfl) (by simp) ?_
        refine AllReadyU.cons (o := ?o48) ?hi48 (fun K hK => ?_) AllReadyU.nil
        case hi48 => (simp only [List.getElem?_toArray, List.getElem?_cons_succ, List.getElem?_cons_zero]; exact rfl)
        go_simp
        refine hK.out _ _ (fun _ => CS _ B18) (fun _ => ?_)
        clear hK K
        try simp only [Act.put, List.setIfInBounds_toArray, List.set_cons_zero, List.set_cons_succ]
        refine wpAnyU_ready (rs := [20]) (by kernel_rfl) (by simp) ?_
        refine AllReadyU.cons (o := ?o49) ?hi49 (fun K hK => ?_) AllReadyU.nil
        case hi49 => (simp only [List.getElem?_toArray, List.getElem?_cons_succ, List.getElem?_cons_zero]; exact rfl)
        go_simp
        refine hK.out _ _ (fun _ => CS _ B18) (fun _ => ?_)
        clear hK K
        try simp only [Act.put, List.setIfInBounds_toArray, List.set_cons_zero, List.set_cons_succ]
        have x2 := CS _ B18
        have z2 := (H1.out.below (HN.out ▸ B18.out) H1.out.lt).frozen 2
        refine wpAnyU_ready (rs := [21]) (by kernel_rfl) (by simp) ?_
        refine AllReadyU.cons (o := ?o50) ?hi50 (fun K hK => ?_) AllReadyU.nil
        case hi50 => (simp only [List.getElem?_toArray, List.getElem?_cons_succ, List.getElem?_cons_zero]; exact rfl)
        go_simp
        refine hK.out _ _ (fun h => absurd rfl h) (fun _ => ?_)
        clear hK K
        try simp only [Act.put, List.setIfInBounds_toArray, List.set_cons_zero, List.set_cons_succ]
        have FIN := dirty_fin (q := ins i p) HN.out H1.out H2.out H3.out H4.out B18.out (EQ.out _ _ o18.out)
        have FF := Kept.mk FIN
        clear FIN o18 o11 O8 x2 z2
        refine wpAnyU_done (by kernel_rfl) ?_ _
        refine NoPanic.normal ?_
        go_wp2
        go_end0
        rw [HP.out] at FF ⊢
        exact ⟨rfl, _, FF.out⟩
end Go.Proofs.Ytgjmnefninmoiaa.Disk
