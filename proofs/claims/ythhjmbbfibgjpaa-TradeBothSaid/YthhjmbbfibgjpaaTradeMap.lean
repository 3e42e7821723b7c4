/-
  Package trade: a map of ints to rows of trades: of each ID what was said, in order.
-/
import Derived.Test.YthhjmbbfibgjpaaTradeMem
import Derived.Maps.OwnSet
import Derived.Maps.Ext
import Derived.Lib.SlKeysI
namespace Go.Proofs.Ythhjmbbfibgjpaa.Trade
open Go.RowKit Go.Proofs.Ythhjmbbfibgjpaa.Sha Go.Maps
open Go.WideElems (Fit rd rg pl)
open Go.ChangeMaps Go.MapKept

/-- how a row reads that stands in the map: as itself -/
def Rown (v : Value) : Option (DataW Value × List MemPlace) := some (.held v, [])
theorem keyI {i : Int} (h : 0 ≤ i ∧ i < 65536) : keyOf Try.prog 3 (.int .i64 i) = some (.int .i64 i) := keyOf_int_mk Try.underlying3 (by rw [Lit.wf_int_iff]; simp only [show IntKind.i64.min = -9223372036854775808 from rfl, show IntKind.i64.max = 9223372036854775807 from rfl]; omega)
theorem keyedI : Keyed Try.prog 3 := int_keyed Try.underlying3
/-- block g is a map: of each ID of l the trades of that ID, each row of the call's own (from block N on) -/
def Mt (N : Nat) (w : World) (g : Nat) (l : List TV) : Prop := ∃ (D : DataW Value) (H : Int → Value), w.ownsMap Try.prog 3 Rown g (ids l).length D ∧ (∀ i : Int, has D (.int .i64 i) = decide (i ∈ ids l)) ∧ (∀ i ∈ ids l, ∀ z, D.atKey (.int .i64 i) z = .held (H i)) ∧ Maps.size D = (ids l).length ∧ ∀ i ∈ ids l, Tr N w (H i) (ofID i l)
theorem own_tight {P : Program} {k : TypeId} {R : Value → Option (DataW Value × List MemPlace)} {w : World} {b n : Nat} {D : DataW Value} (h : w.ownsMap P k R b n D) : w.ownsMap P k R b (Maps.size D) D := by
  obtain ⟨es, clock, h1, h2, h3, rfl⟩ := h
  exact ⟨es, clock, h1, h2, by simp [Maps.size, length_sorted], rfl⟩
theorem map_bar {P : Program} {k : TypeId} {R : Value → Option (DataW Value × List MemPlace)} {w w' : World} {b n : Nat} {D : DataW Value} {G : List Nat} (h : w.ownsMap P k R b n D) (hb : Bar G w w') (hg : b ∉ G) : w'.ownsMap P k R b n D := by
  have hl := h.lt
  obtain ⟨es, clock, h1, h2⟩ := h
  exact ⟨es, clock, (hb.block b hl hg).trans h1, h2⟩
theorem Mt.lt {N : Nat} {w : World} {g : Nat} {l : List TV} (h : Mt N w g l) : g < w.heap.size := by
  obtain ⟨D, H, h1, -⟩ := h
  exact h1.lt
theorem Mt.below {N : Nat} {w w' : World} {g : Nat} {l : List TV} (h : Mt N w g l) (b : Below w.heap.size w w') : Mt N w' g l := by
  obtain ⟨D, H, h1, h2, h3, h4, h5⟩ := h
  exact ⟨D, H, map_bar h1 (barOf b []) (by simp), h2, h3, h4, fun i hi => own_keep (h5 i hi) (barOf b []) (by simp)⟩
theorem Mt.new (N : Nat) (w : World) : Mt N (w.alloc (.map #[] 0)) w.heap.size [] :=
  ⟨.map [], fun _ => .slice none 0 0, World.ownsMap_made w _ _ _, fun i => by simp [has, ids], fun i hi => by simp [ids] at hi, by simp [Maps.size, ids], fun i hi => by simp [ids] at hi⟩
/-- 'm[i]': as long as the map's block stays -/
theorem Mt.look {N : Nat} {w : World} {g : Nat} {l : List TV} (h : Mt N w g l) {i : Int} (hi : 0 ≤ i ∧ i < 65536) :
    ∃ v, (∀ w' : World, w'.heap[g]? = w.heap[g]? → (Instr.lookup 58 (.map (some g)) (.int .i64 i) false).run Try.prog w' = .ok v w') ∧ Tr N w v (ofID i l) ∧ (i ∉ ids l → v = .slice none 0 0) := by
  obtain ⟨D, H, h1, h2, h3, h4, h5⟩ := h
  have hrd : ∀ {x y : Value} {ps : List MemPlace}, Rown x = some (.held y, ps) → x = y := fun hv => by
    unfold Rown at hv
    injection hv with hv
    injection hv with hv _
    injection hv
  have hrun : ∀ w' : World, w'.heap[g]? = w.heap[g]? → ∃ v ps, (Instr.lookup 58 (.map (some g)) (.int .i64 i) false).run Try.prog w' = .ok v w' ∧ Rown v = some (D.atKey (.int .i64 i) (.held (.slice none 0 0)), ps) := fun w' hw' => by
    obtain ⟨es, clock, hb, r⟩ := h1
    have own : w'.ownsMap Try.prog 3 Rown g (ids l).length D := ⟨es, clock, hw'.trans hb, r⟩
    exact own.lookup keyedI Try.underlying58 (z := .slice none 0 0) (Try.zeroValue39 w') (zd := .held (.slice none 0 0)) (zp := []) rfl (keyI hi)
  by_cases hm : i ∈ ids l
  · refine ⟨H i, fun w' hw' => ?_, h5 i hm, fun h => absurd hm h⟩
    obtain ⟨v, ps, hr, hv⟩ := hrun w' hw'
    rw [h3 i hm] at hv
    rw [hr, hrd hv]
  · refine ⟨.slice none 0 0, fun w' hw' => ?_, by rw [ofID_nil hm]; exact World.ownsRow_nil _ _ _ _, fun _ => rfl⟩
    obtain ⟨v, ps, hr, hv⟩ := hrun w' hw'
    rw [atKey_of_not_has (by rw [h2]; simpa using hm)] at hv
    rw [hr, hrd hv]
/-- rows of unlike IDs lie apart -/
theorem row_apart {N : Nat} {w : World} {u v : Value} {i j : Int} {l : List TV} (hu : Tr N w u (ofID i l)) (hn : i ∉ ids l → u = .slice none 0 0) (hv : Tr N w v (ofID j l)) (hij : i ≠ j) (hj : j ∈ ids l) : ∀ k ∈ v.ownBlock.toList, k ∉ u.ownBlock.toList := by
  intro k hk hk2
  obtain ⟨t, r, et, it⟩ := ofID_some hj
  by_cases hi : i ∈ ids l
  · obtain ⟨t', r', et', it'⟩ := ofID_some hi
    have h1 := hu; have h2 := hv
    unfold Tr at h1 h2
    rcases hu.2 with ⟨_, h0⟩ | ⟨g, cap, cur, rfl, -, -, -⟩
    · rw [et'] at h0; simp at h0
    · rcases hv.2 with ⟨_, h0⟩ | ⟨g', cap', cur', rfl, -, -, -⟩
      · rw [et] at h0; simp at h0
      · simp [Value.ownBlock] at hk hk2
        subst hk
        subst hk2
        have c1 := World.ownsRow.cellAt h1 (0 * 7 + 0) (by rw [et']; simp)
        have c2 := World.ownsRow.cellAt h2 (0 * 7 + 0) (by rw [et]; simp)
        rw [flatC_at tvC 7 tvC_len _ 0 0 t' (by rw [et']; rfl) (by omega)] at c1
        rw [flatC_at tvC 7 tvC_len _ 0 0 t (by rw [et]; rfl) (by omega)] at c2
        rw [c1] at c2
        simp only [tvC, List.getElem?_cons_zero, Option.some.injEq, Value.int.injEq, true_and] at c2
        omega
  · rw [hn hi] at hk2
    simp [Value.ownBlock] at hk2
theorem litI_ne {i j : Int} (h : i ≠ j) : (Lit.int .i64 i) ≠ .int .i64 j := fun e => by injection e with _ e; exact h e
/-- the map block is none of a row -/
theorem row_map {N : Nat} {w : World} {v : Value} {l : List TV} {P : Program} {k : TypeId} {R : Value → Option (DataW Value × List MemPlace)} {g n : Nat} {D : DataW Value} (hv : Tr N w v l) (h : w.ownsMap P k R g n D) : g ∉ v.ownBlock.toList := by
  intro hm
  obtain ⟨es, clock, h1, -⟩ := h
  rcases hv.2 with ⟨rfl, _⟩ | ⟨b, cap, cur, rfl, -, hb, -⟩
  · simp [Value.ownBlock] at hm
  · simp [Value.ownBlock] at hm
    subst hm
    rw [h1] at hb
    cases hb
/-- 'm[i] = append(m[i], t)', its last step -/
theorem Mt.put {N : Nat} {w w1 : World} {g : Nat} {l : List TV} {t : TV} {v v' : Value} (h : Mt N w g l) (ht : 0 ≤ t.id ∧ t.id < 65536) (hv : Tr N w v (ofID t.id l)) (hn : t.id ∉ ids l → v = .slice none 0 0)
    (b : Bar v.ownBlock.toList w w1) (hv' : Tr N w1 v' (ofID t.id l ++ [t])) (hl : l.length < 1000) :
    ∃ w2, (Instr.mapUpdate 58 (.map (some g)) (.int .i64 t.id) v').run Try.prog w1 = .ok () w2 ∧ Mt N w2 g (l ++ [t]) ∧ Bar [g] w1 w2 := by
  obtain ⟨D, H, h1, h2, h3, h4, h5⟩ := h
  have g1 := row_map hv h1
  have h1' := map_bar h1 b g1
  have hids := ids_len l
  obtain ⟨w2, hrun, own, gr⟩ := h1'.update keyedI Try.underlying58 (by unfold maxLen; omega) (keyI ht) (val := v') (d := .held v') (ps := []) rfl
  have b2 : Bar [g] w1 w2 := ⟨gr.os, gr.tape, gr.output, gr.size, fun k hk hn => gr.block k hk (fun e => hn (by injection e with e; simp [e]))⟩
  have hk : WideAt.IsKeyLit (.int .i64 t.id) := trivial
  have hsz : Maps.size (D.put (.int .i64 t.id) (.held v')) = (ids (l ++ [t])).length := by
    rw [size_put (h1.tidy keyedI), h2, h4, ids_snoc]
    by_cases hm : t.id ∈ ids l
    · rw [insI_same (ids_rise l) hm]; simp [hm]
    · have : ∀ p : List Int, t.id ∉ p → (insI t.id p).length = p.length + 1 := fun p hp => by
        induction p with
        | nil => rfl
        | cons k p ih =>
          have q1 : t.id ≠ k := fun e => hp (by simp [e])
          have q2 : t.id ∉ p := fun e => hp (by simp [e])
          unfold insI
          split
          · simp [ih q2]
          · split
            · rename_i e; exact absurd e.symm q1
            · simp
      rw [this _ hm]; simp [hm]
  obtain ⟨H', hH'⟩ : ∃ H' : Int → Value, H' = fun i => if i = t.id then v' else H i := ⟨_, rfl⟩
  have e1 : H' t.id = v' := by rw [hH']; simp
  have e2 : ∀ i, i ≠ t.id → H' i = H i := fun i h => by rw [hH']; simp [h]
  refine ⟨w2, hrun, ⟨D.put (.int .i64 t.id) (.held v'), H', hsz ▸ own_tight own, fun i => ?_, fun i hi z => ?_, hsz, fun i hi => ?_⟩, b2⟩
  · by_cases e : i = t.id
    · subst e
      rw [has_put_same h1.isMap hk, ids_snoc]
      simp [insI_mem]
    · rw [has_put_other (litI_ne e), h2, ids_snoc]
      simp [insI_mem, e]
  · by_cases e : i = t.id
    · subst e
      rw [atKey_put_same h1.isMap hk, e1]
    · rw [atKey_put_other (litI_ne e), e2 i e]
      rw [ids_snoc, insI_mem] at hi
      exact h3 i (hi.resolve_left e) z
  · rw [ofID_snoc]
    by_cases e : i = t.id
    · subst e
      rw [e1, if_pos rfl]
      exact own_keep hv' b2 (fun k hk hm => by rw [List.mem_singleton] at hm; subst hm; exact row_map hv' h1' (by simpa using hk))
    · rw [e2 i e, if_neg (fun h => e h.symm), List.append_nil]
      rw [ids_snoc, insI_mem] at hi
      have hi2 := hi.resolve_left e
      have r1 := own_keep (h5 i hi2) b (fun k hk => row_apart hv hn (h5 i hi2) (fun h => e h.symm) hi2 k (by simpa using hk))
      exact own_keep r1 b2 (fun k hk hm => by rw [List.mem_singleton] at hm; subst hm; exact row_map r1 h1' (by simpa using hk))
/-- the keys, sorted -/
theorem mt_keys {w : World} {g n : Nat} {l : List TV} {D : DataW Value} (own : w.ownsMap Try.prog 3 Rown g n D) (h2 : ∀ i : Int, has D (.int .i64 i) = decide (i ∈ ids l))
    {ss : List Int} (hp : ss.Perm (intKeys D)) : ss.mergeSort (fun x y => decide (x ≤ y)) = ids l := by
  obtain ⟨es, hD, hpw⟩ := own.tidy keyedI
  have hko : ∀ q ∈ es, ∃ x, q.1 = .int .i64 x := by
    obtain ⟨es', clock, -, F, -, hD'⟩ := own
    rw [hD] at hD'
    injection hD' with hD'
    intro q hq
    rw [hD'] at hq
    have hq2 := (WideShapes.sorted_perm _).mem_iff.1 hq
    obtain ⟨e, he, rfl⟩ := List.mem_map.1 hq2
    obtain ⟨y, hy⟩ := F.reads e he
    have := WideElems.rd_key hy
    obtain ⟨x, -, hx, -⟩ := Maps.keyOf_i64 Try.underlying3 this
    exact ⟨x, by rw [WideElems.rg_of hy]; exact hx⟩
  have hs := ids_rise l
  have h := perm_intKeys hpw hko (ss := ids l) (hs.imp (fun h => by omega)) (fun x => by
    rw [← hD, h2 x]; simp)
  rw [← hD] at h
  rw [show ss.mergeSort (fun x y => decide (x ≤ y)) = ss.mergeSort leI from rfl, mergeSort_of_perm_i (hp.trans h.symm)]
  exact List.mergeSort_of_pairwise (hs.imp (fun h => by simp only [leI, decide_eq_true_eq]; omega))
end Go.Proofs.Ythhjmbbfibgjpaa.Trade
