/-
  slices.Delete of one parcel of a post's row.
-/
import Derived.Test.YtjnpcfpalckkdaaPostMem
import Derived.Deep.RegionLaw
import Derived.Laws.IdiomCopy
import Derived.Laws.Slices
import Derived.Lib.SliceRun
namespace Go.Proofs.Ytjnpcfpalckkdaa.Post
open Go.RowKit Go.Proofs.Ytjnpcfpalckkdaa.Sha

theorem splice_set {α : Type} (L : List α) (o : Nat) (v : α) (r : List α) (h : o < L.length) : splice (L.set o v) (o + 1) r = splice L o (v :: r) := by
  have e1 : (L.set o v).take (o + 1) = L.take o ++ [v] := by
    rw [List.take_add_one, List.getElem?_set_self h, List.take_set_of_le (Nat.le_refl _)]
    rfl
  have e2 : (L.set o v).drop (o + 1 + r.length) = L.drop (o + 1 + r.length) := List.drop_set_of_lt (by omega)
  unfold splice
  rw [e1, e2, List.length_cons, List.append_assoc, show o + (r.length + 1) = o + 1 + r.length by omega]
  rfl
theorem blk_setCells {g : Nat} {T : TypeId} : ∀ (vs : List Value) (o : Nat) (w : World) (cs : Array Value), Blk w g T cs → o + vs.length ≤ cs.size → Blk (w.setCells g o vs) g T (splice cs.toList o vs).toArray
  | [], o, w, cs, h, _ => by
    rw [World.setCells, show splice cs.toList o [] = cs.toList by simp [splice]]
    exact h
  | v :: r, o, w, cs, h, hs => by
    rw [World.setCells]
    have := blk_setCells r (o + 1) _ _ (h.set_ o v) (by simp at hs ⊢; omega)
    rw [Array.toList_setIfInBounds, splice_set _ _ _ _ (by simp at hs ⊢; omega)] at this
    exact this
theorem bar_setCells {g : Nat} : ∀ (vs : List Value) (o : Nat) (w : World), Bar [g] w (w.setCells g o vs)
  | [], _, w => Bar.refl _ w
  | v :: r, o, w => by
    rw [World.setCells]
    exact ((Bar.refl [g] w).setCell (p := ⟨g, o, none⟩) (by simp) v).trans (bar_setCells r (o + 1) _) (by simp)
section
variable {α : Type} {C : α → List Value} {s : Nat}
theorem flat_take (hC : ∀ x, (C x).length = s) (q : List α) (k : Nat) (h : k ≤ q.length) : (q.flatMap C).take (k * s) = (q.take k).flatMap C := by
  conv => lhs; rw [← List.take_append_drop k q, List.flatMap_append]
  rw [List.take_left' (by rw [flatC_len C s hC, List.length_take, Nat.min_eq_left h])]
theorem flat_drop (hC : ∀ x, (C x).length = s) (q : List α) (k : Nat) (h : k ≤ q.length) : (q.flatMap C).drop (k * s) = (q.drop k).flatMap C := by
  conv => lhs; rw [← List.take_append_drop k q, List.flatMap_append]
  rw [List.drop_left' (by rw [flatC_len C s hC, List.length_take, Nat.min_eq_left h])]
end
theorem info_pa : (Try.prog.info? 37).map (fun i => (i.zero, i.size, i.bytes)) = some (some (.agg #[.int .i64 0, .slice none 0 0]), 2, 32) := by kernel_rfl
theorem zero_pa (w : World) : (zeroValue 37).run Try.prog w = .ok (.agg #[.int .i64 0, .slice none 0 0]) w := by
  obtain ⟨iu, hi, hz, _, _⟩ := info_parts info_pa
  simp [zeroValue, typeInfo, hi, hz]
/-- clear of one parcel -/
theorem clear_pa (w : World) (ty : TypeId) (g o c : Nat) (hc : ∀ j, j < 2 → (w.cell? ⟨g, o + j, none⟩).isSome = true) (hf : ∀ j, j < 2 → w.frozen? ⟨g, o + j, none⟩ = false) :
    (Builtin.clear_ #[44] ty #[.slice (some ⟨g, o, none⟩) 1 c]).run Try.prog w = .ok (.tuple #[]) (w.setCells g o [.int .i64 0, .slice none 0 0]) := by
  have hst := run_storeCells_cells (P := Try.prog) g o [.int .i64 0, .slice none 0 0] 0 w (by simpa using hc) (by simpa using hf) (by
    intro v hv
    simp only [List.mem_cons, List.not_mem_nil, or_false] at hv
    rcases hv with rfl | rfl <;> rfl)
  simp only [Nat.add_zero] at hst
  have hz : (Builtin.zeroCells (Value.agg #[.int .i64 0, .slice none 0 0]).cells 1).toList = [.int .i64 0, .slice none 0 0] := by kernel_rfl
  simp [Builtin.clear_, run_underlying Try.underlying44, hz, hst]
end Go.Proofs.Ytjnpcfpalckkdaa.Post
namespace Go.Proofs.Ytjnpcfpalckkdaa.Post
open Go.RowKit Go.Proofs.Ytjnpcfpalckkdaa.Sha
theorem elem_pa : Try.prog.elem 44 = 37 := by kernel_rfl
theorem und_pa : Try.prog.underlying 44 = some (.slice (Try.prog.elem 44)) := by rw [elem_pa]; exact Try.underlying44
theorem size_pa (w : World) : (sizeOf (Try.prog.elem 44)).run Try.prog w = .ok 2 w := by
  obtain ⟨iu, hi, _, hz1, _⟩ := info_parts info_pa
  rw [elem_pa]
  simp [sizeOf, typeInfo, hi, hz1]
/-- s[l:] -/
theorem pa_l (g o n c l : Nat) (hn : l ≤ n) (hc : n ≤ c) (li : Int) (e1 : li = l) :
    ∃ A : Addr, (∀ w, (Instr.slice 44 (.slice (some ⟨g, o, none⟩) n c) (some (.int .i64 li)) none none).run Try.prog w = .ok (.slice (some A) (n - l) (c - l)) w) ∧ (l < c → A = ⟨g, o + l * 2, none⟩) := by
  subst e1
  have ea : (⟨g, o, none⟩ : Addr).add (l * 2) = ⟨g, o + l * 2, none⟩ := by cases l <;> simp [Addr.add]
  by_cases h : c = l
  · refine ⟨⟨g, o, none⟩, fun w => ?_, fun hl => by omega⟩
    rw [run_slice_l w 44 _ n c und_pa .i64 l (by omega) (by omega), size_pa]
    simp [Result.andThen, sliced, h]
  · refine ⟨⟨g, o + l * 2, none⟩, fun w => ?_, fun _ => rfl⟩
    rw [run_slice_l w 44 _ n c und_pa .i64 l (by omega) (by omega), size_pa]
    simp [Result.andThen, sliced, ea, h]
/-- s[:h] -/
theorem pa_h (g o n c h : Nat) (h1 : h ≤ n) (hc : n ≤ c) (hi : Int) (e1 : hi = h) (w : World) :
    (Instr.slice 44 (.slice (some ⟨g, o, none⟩) n c) none (some (.int .i64 hi)) none).run Try.prog w = .ok (.slice (some ⟨g, o, none⟩) h c) w := by
  subst e1
  rw [run_slice_h w 44 _ n c und_pa .i64 h (by omega) (by omega), size_pa]
  have ea : ∀ a : Addr, a.add 0 = a := fun a => by simp [Addr.add]
  simp [Result.andThen, sliced, ea]
/-- s[l:h] -/
theorem pa_lh (g o n c l h : Nat) (h0 : l < c) (h1 : l ≤ h) (h2 : h ≤ c) (li hi : Int) (e1 : li = l) (e2 : hi = h) (w : World) :
    (Instr.slice 44 (.slice (some ⟨g, o, none⟩) n c) (some (.int .i64 li)) (some (.int .i64 hi)) none).run Try.prog w = .ok (.slice (some ⟨g, o + l * 2, none⟩) (h - l) (c - l)) w := by
  subst e1 e2
  rw [run_slice_lh w 44 _ n c und_pa .i64 .i64 l h (by omega) (by omega) (by omega), size_pa]
  have ea : (⟨g, o, none⟩ : Addr).add (l * 2) = ⟨g, o + l * 2, none⟩ := by cases l <;> simp [Addr.add]
  simp [Result.andThen, sliced, ea, show ¬ c = l by omega]
set_option maxRecDepth 100000 in
set_option maxHeartbeats 2000000 in
theorem delete_any {N : Nat} {w : World} {g c i : Nat} {q : List PA} {n : Nat} (hn : q.length = n) (hi : i < n) (h : Prw N w (.slice (some ⟨g, 0, none⟩) n c) q) (hs : n ≤ 200) :
    Calls Try.prog 28 #[.slice (some ⟨g, 0, none⟩) n c, .int .i64 i, .int .i64 ((i : Int) + 1)] w fun e w' => e = .returned (.slice (some ⟨g, 0, none⟩) (q.take i ++ q.drop (i + 1)).length c) ∧ Prw N w' (.slice (some ⟨g, 0, none⟩) (q.take i ++ q.drop (i + 1)).length c) (q.take i ++ q.drop (i + 1)) ∧ Bar [g] w w' := by
  have hh := h
  unfold Prw at hh
  rw [hn] at hh
  obtain ⟨g', c', cur, hv, hg, hb, h1, h2, h3, h4⟩ := hh.2.resolve_left (by rintro ⟨hv, -⟩; cases hv)
  injection hv with e1 _ e3
  injection e1 with e1
  injection e1 with e1
  subst e1 e3
  unfold maxLen at h2
  have hB : Blk w g 37 cur := hb
  have hl : (q.take i ++ q.drop (i + 1)).length = n - 1 := by simp; omega
  rw [hl]
  obtain ⟨news, hnews⟩ : ∃ z, (q.drop (i + 1)).flatMap paC = z := ⟨_, rfl⟩
  have hnl : news.length = (n - (i + 1)) * 2 := by rw [← hnews, flatC_len paC 2 paC_len, List.length_drop, hn]
  have hcl : cur.toList.length = c * 2 := by simpa using h3
  have hb1 : Blk (w.drew.setCells g (0 + i * 2) news) g 37 (splice cur.toList (0 + i * 2) news).toArray := blk_setCells news _ w.drew cur hB (by omega)
  have hz : (splice cur.toList (0 + i * 2) news).length = c * 2 := by rw [length_splice _ _ _ (by omega)]; exact hcl
  have hb2 := blk_setCells [.int .i64 0, .slice none 0 0] (0 + (n - 1) * 2) _ _ hb1 (by rw [List.size_toArray, hz]; show 0 + (n - 1) * 2 + 2 ≤ _; omega)
  have hbar : Bar [g] w ((w.drew.setCells g (0 + i * 2) news).setCells g (0 + (n - 1) * 2) [.int .i64 0, .slice none 0 0]) := (Bar.drewL (bar_setCells news _ _)).trans (bar_setCells _ _ _) (fun _ h => .inl h)
  obtain ⟨A, hA, hA2⟩ := pa_l g 0 n c (i + 1) hi h1 ((i : Int) + 1) (by omega)
  have hsrc : ∀ j u, news[j]? = some u → w.cell? (A.add j) = some u := by
    intro j u hj
    have hjl := (List.getElem?_eq_some_iff.1 hj).1
    rw [hA2 (by omega), show (⟨g, 0 + (i + 1) * 2, none⟩ : Addr).add j = ⟨g, 0 + (i + 1) * 2 + j, none⟩ by cases j <;> simp [Addr.add], hB.cell, ← hj, ← hnews, ← flat_drop paC_len q (i + 1) (by omega), ← h4, List.getElem?_drop, List.getElem?_take, if_pos (by omega), Array.getElem?_toList, Nat.zero_add]
  have hpost : Prw N ((w.drew.setCells g (0 + i * 2) news).setCells g (0 + (n - 1) * 2) [.int .i64 0, .slice none 0 0]) (.slice (some ⟨g, 0, none⟩) (n - 1) c) (q.take i ++ q.drop (i + 1)) := by
    refine ⟨flatC_len paC 2 paC_len _, .inr ⟨g, c, _, by rw [hl], hg, hb2, by rw [hl]; omega, by unfold maxLen; omega, by rw [List.size_toArray, length_splice _ _ _ (by show 0 + (n - 1) * 2 + 2 ≤ (splice cur.toList (0 + i * 2) news).length; omega)]; exact hz, ?_⟩⟩
    rw [hl]
    simp only [Nat.zero_add] at hz ⊢
    have e1 : ∀ (L zs : List Value) (k : Nat), k ≤ L.length → (splice L k zs).take k = L.take k := fun L zs k hk => by
      unfold splice
      rw [List.take_left' (by rw [List.length_take]; omega)]
    rw [e1 _ _ _ (by omega)]
    unfold splice
    rw [← List.append_assoc, List.take_left' (by rw [List.length_append, List.length_take, hnl]; omega), ← hnews, List.flatMap_append, ← flat_take paC_len q i (by omega), ← h4, List.take_take, Nat.min_eq_left (by omega)]
  have hcells : ∀ j, j < c * 2 → (w.drew.cell? ⟨g, j, none⟩).isSome = true ∧ w.drew.frozen? ⟨g, j, none⟩ = false := fun j hj => ⟨by rw [(hB.drew).cell j, Array.getElem?_eq_getElem (by omega)]; rfl, hB.drew.frozen j⟩
  obtain ⟨W1, hW1⟩ : ∃ z, w.drew.setCells g (0 + i * 2) news = z := ⟨_, rfl⟩
  rw [hW1] at hb1 hb2 hbar hpost
  have hcl2 : ∀ ty, (Builtin.clear_ #[44] ty #[.slice (some ⟨g, 0 + (n - 1) * 2, none⟩) 1 (c - (n - 1))]).run Try.prog W1 = .ok (.tuple #[]) (W1.setCells g (0 + (n - 1) * 2) [.int .i64 0, .slice none 0 0]) :=
    fun ty => clear_pa W1 ty g _ _ (fun j hj => by rw [hb1.cell, Array.getElem?_eq_getElem (by rw [List.size_toArray, hz]; omega)]; rfl) (fun j hj => hb1.frozen _)
  have s0 := pa_h g 0 n c i (by omega) h1 (i : Int) rfl
  have s2 := pa_lh g 0 (n - 1) c (n - 1) n (by omega) (by omega) h1 ((n - 1 : Nat) : Int) (n : Int) rfl rfl
  rw [show n - (n - 1) = 1 by omega] at s2
  simp only [Nat.zero_add] at s2 hcl2 hpost hbar
  obtain ⟨iu, hiu, _, hz1, _⟩ := info_parts info_pa
  have e1 : i + (n - (i + 1)) = n - 1 := by omega
  have K1 := Kept.mk hnl; have K2 := Kept.mk hsrc; have K3 := Kept.mk hcells; have K4 := Kept.mk hW1; have K5 := Kept.mk hpost; have K6 := Kept.mk hbar
  have K7 : Kept (∀ u ∈ news, u.oneCell' = true) := ⟨fun u hu => by rw [← hnews] at hu; obtain ⟨y, -, hy⟩ := List.mem_flatMap.1 hu; exact paC_one y u hy⟩
  clear hnl hsrc hcells hW1 hpost hbar hb1 hb2 hz hcl hB hb h4 hnews h hh hA2 hl hn h3 hs
  generalize q.take i ++ q.drop (i + 1) = q2 at *
  go_enter Try.func28, Try.ntmps28
  go_wp2_with fail
  go_region_law (refine step_append_room rfl (.tmp 22) (.tmp 25) 44 rfl 37 iu 2 Try.underlying44 hiu hz1 g 0 i c (by simp [Act.eval, Act.put]) A (n - (i + 1)) (c - (i + 1)) news (by simp [Act.eval, Act.put]) K1.out K2.out K7.out (by omega) (fun j hj => by have := K1.out; exact ⟨(K3.out _ (by omega)).1, (K3.out _ (by omega)).2⟩) ?_; rw [K4.out])
  go_wp2
  go_ret
  exact ⟨rfl, K5.out, K6.out⟩
end Go.Proofs.Ytjnpcfpalckkdaa.Post
