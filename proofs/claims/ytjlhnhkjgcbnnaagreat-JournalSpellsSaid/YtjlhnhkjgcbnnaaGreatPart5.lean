/-
  Parts laid together: DiskMap Bools DiskPost DiskMem Texts TextsG JMem Chunk DiskBase DiskAt DiskPl DiskWrite DiskClear DiskSync JWrite JStore.
-/
import Derived.Test.YtjlhnhkjgcbnnaaGreatPart4
import Derived.Test.YtjlhnhkjgcbnnaaGreatPart2
import Derived.Maps.OwnSet
import Derived.Maps.Ext
import Derived.Lib.SlKeysI
import Derived.Test.YtjlhnhkjgcbnnaaGreatPart1
import Derived.Deep.Grids
import Derived.ChangeSame
import Derived.Laws.LoneSync
import Derived.Deep.MidRow
import Derived.Test.YtjlhnhkjgcbnnaaGreatPart3
import Derived.Maps.AppendAt
import Derived.Lib.AppendZeros
import Derived.RangeFuncNested
import Derived.RangeFuncBound
import Derived.RangeFuncCalls
import Derived.RangeFuncLeaves
import Derived.RangeFuncBox
import Derived.Shelf.Abstract
import Derived.Shelf.RegionOpen
import Derived.OwnWalkIn
import Derived.TacticsInMore
import Derived.LoopNIn
import Derived.LoopIn
import Derived.StillTailTactics
import Derived.Laws.Cover3

/-
  A map of ints to sectors in memory: what is pending, and what each falls back to.
-/





namespace Go.Proofs.YtjlhnhkjgcbnnaaGreat.Disk
open Go.RowKit Go.Proofs.YtjlhnhkjgcbnnaaGreat.Sha Go.Maps
open Go.WideElems (Fit rd rg pl)
open Go.ChangeMaps Go.MapKept

def secD (xs : List Int) : DataW Unit := .agg (xs.map fun x => .lit (.int .u8 x))
theorem secD_inj {xs ys : List Int} (h : secD xs = secD ys) : xs = ys := by
  unfold secD at h
  injection h with h
  induction xs generalizing ys with
  | nil => cases ys with
    | nil => rfl
    | cons y ys => simp at h
  | cons x xs ih => cases ys with
    | nil => simp at h
    | cons y ys =>
      simp only [List.map_cons, List.cons.injEq] at h
      obtain ⟨h1, h2⟩ := h
      injection h1 with h1
      injection h1 with _ h1
      rw [h1, ih h2]
def u8Of : Value → Option Int
  | .int .u8 a => some a
  | _ => none
/-- how a sector reads that stands in a map -/
def Rsec : Value → Option (DataW Unit × List MemPlace)
  | .agg cs => (cs.toList.mapM u8Of).map fun xs => (secD xs, [])
  | _ => none
theorem u8_map (xs : List Int) : (ints .u8 xs).mapM u8Of = some xs := by
  induction xs with
  | nil => rfl
  | cons x xs ih =>
    unfold ints at ih ⊢
    rw [List.map_cons, List.mapM_cons, ih]
    rfl
theorem u8_inv {l : List Value} : ∀ {xs : List Int}, l.mapM u8Of = some xs → l = ints .u8 xs := by
  induction l with
  | nil =>
    intro xs h
    simp at h
    subst h; rfl
  | cons v l ih =>
    intro xs h
    rw [List.mapM_cons] at h
    cases hv : u8Of v with
    | none => rw [hv] at h; simp at h
    | some a =>
      cases hl : l.mapM u8Of with
      | none => rw [hv, hl] at h; simp at h
      | some ys =>
        rw [hv, hl] at h
        simp at h
        subst h
        rw [ih hl]
        have : v = .int .u8 a := by
          unfold u8Of at hv
          split at hv
          · injection hv with hv; rw [hv]
          · cases hv
        rw [this]
        rfl
theorem rsec_mk (xs : List Int) : Rsec (.agg (arr .u8 xs)) = some (secD xs, []) := by
  unfold Rsec arr
  simp [u8_map]
theorem rsec_inv {v : Value} {d : DataW Unit} {ps : List MemPlace} (h : Rsec v = some (d, ps)) : ∃ xs, v = .agg (arr .u8 xs) ∧ d = secD xs := by
  unfold Rsec at h
  split at h
  · rename_i cs
    cases hx : cs.toList.mapM u8Of with
    | none => rw [hx] at h; simp at h
    | some xs =>
      rw [hx] at h
      simp at h
      refine ⟨xs, ?_, h.1.symm⟩
      have := u8_inv hx
      unfold arr
      rw [← this]
  · cases h
theorem keyI (i : Nat) (h : i < 9000) : keyOf Tryz.prog 3 (.int .i64 (i : Int)) = some (.int .i64 (i : Int)) := keyOf_int_mk Tryz.underlying3 (by rw [Lit.wf_int_iff]; simp only [show IntKind.i64.min = -9223372036854775808 from rfl, show IntKind.i64.max = 9223372036854775807 from rfl]; omega)
theorem keyedI : Keyed Tryz.prog 3 := int_keyed Tryz.underlying3

/-- block g is a map: its keys are p, at each of them stands the sector of L -/
def Mp (w : World) (g : Nat) (p : List Nat) (L : List (List Int)) : Prop := ∃ D : DataW Unit, w.ownsMap Tryz.prog 3 Rsec g p.length D ∧ p.Nodup ∧ (∀ i : Nat, has D (.int .i64 (i : Int)) = decide (i ∈ p)) ∧ (∀ x : Int, x < 0 → has D (.int .i64 x) = false) ∧ (∀ i ∈ p, ∀ z, D.atKey (.int .i64 (i : Int)) z = secD (rowOf L i)) ∧ Maps.size D = p.length
theorem own_tight {P : Program} {k : TypeId} {R : Value → Option (DataW Unit × List MemPlace)} {w : World} {b n : Nat} {D : DataW Unit} (h : w.ownsMap P k R b n D) : w.ownsMap P k R b (Maps.size D) D := by
  obtain ⟨es, clock, h1, h2, h3, rfl⟩ := h
  exact ⟨es, clock, h1, h2, by simp [Maps.size, length_sorted], rfl⟩
theorem Mp.lt {w : World} {g : Nat} {p : List Nat} {L : List (List Int)} (h : Mp w g p L) : g < w.heap.size := by
  obtain ⟨D, h1, -⟩ := h
  exact h1.lt
theorem own_bar {P : Program} {k : TypeId} {R : Value → Option (DataW Unit × List MemPlace)} {w w' : World} {b n : Nat} {D : DataW Unit} {G : List Nat} (h : w.ownsMap P k R b n D) (hb : Bar G w w') (hg : b ∉ G) : w'.ownsMap P k R b n D := by
  have hl := h.lt
  obtain ⟨es, clock, h1, h2⟩ := h
  exact ⟨es, clock, (hb.block b hl hg).trans h1, h2⟩
theorem Mp.bar {w w' : World} {g : Nat} {p : List Nat} {L : List (List Int)} {G : List Nat} (h : Mp w g p L) (b : Bar G w w') (hg : g ∉ G) : Mp w' g p L := by
  obtain ⟨D, h1, h2⟩ := h
  exact ⟨D, Disk.own_bar h1 b hg, h2⟩
theorem Mp.swap {w : World} {g : Nat} {p : List Nat} {L L' : List (List Int)} (h : Mp w g p L) (hl : ∀ i ∈ p, rowOf L i = rowOf L' i) : Mp w g p L' := by
  obtain ⟨D, h1, h2, h3, h4, h5, h6⟩ := h
  exact ⟨D, h1, h2, h3, h4, fun i hi z => by rw [h5 i hi z, hl i hi], h6⟩
theorem Mp.ne {w : World} {g b : Nat} {p : List Nat} {L : List (List Int)} {t : TypeId} {cs : Array Value} (h : Mp w g p L) (k : Blk w b t cs) : g ≠ b := by
  rintro rfl
  obtain ⟨D, ⟨es, clock, h1, -⟩, -⟩ := h
  unfold Blk at k
  rw [h1] at k
  cases k
theorem mp_empty (w : World) (g c : Nat) (L : List (List Int)) (h : w.heap[g]? = some (.map #[] c)) : Mp w g [] L := by
  refine ⟨.map [], ⟨#[], c, h, ⟨by simp, MapKept.stamped_empty c, by simp⟩, by simp, rfl⟩, by simp, fun i => ?_, fun x _ => rfl, by simp, rfl⟩
  simp [has]
theorem mp_new (w : World) (L : List (List Int)) : Mp (w.alloc (.map #[] 0)) w.heap.size [] L := mp_empty _ _ 0 _ (heap_alloc_new w _)
def zsec : Value := .agg (arr .u8 (List.replicate 64 0))
/-- 'v, ok := m[i]' -/
theorem Mp.look {w : World} {g : Nat} {p : List Nat} {L : List (List Int)} (h : Mp w g p L) (i : Nat) (hi : i < 9000) (h64 : (rowOf L i).length = 64) : ∃ xs, xs.length = 64 ∧ (Instr.lookup 81 (.map (some g)) (.int .i64 (i : Int)) true).run Tryz.prog w = .ok (.tuple #[.agg (arr .u8 xs), .bool (decide (i ∈ p))]) w := by
  obtain ⟨D, h1, -, h3, -, h5, -⟩ := h
  obtain ⟨v, ps, hrun, hv⟩ := h1.look_ok keyedI Tryz.underlying81 (z := zsec) (Tryz.zeroValue107 w) (rsec_mk _) (keyI i hi)
  rw [h3] at hrun
  by_cases hp : i ∈ p
  · rw [h5 i hp] at hv
    obtain ⟨xs, rfl, hx⟩ := rsec_inv hv
    exact ⟨xs, by rw [← secD_inj hx]; exact h64, hrun⟩
  · rw [atKey_of_not_has (by rw [h3]; simpa using hp)] at hv
    obtain ⟨xs, rfl, hx⟩ := rsec_inv hv
    exact ⟨xs, by rw [← secD_inj hx]; simp, hrun⟩
/-- 'm[i]' of one that is there -/
theorem Mp.at_ {w : World} {g : Nat} {p : List Nat} {L : List (List Int)} (h : Mp w g p L) (i : Nat) (hi : i < 9000) (hp : i ∈ p) : (Instr.lookup 81 (.map (some g)) (.int .i64 (i : Int)) false).run Tryz.prog w = .ok (.agg (arr .u8 (rowOf L i))) w := by
  obtain ⟨D, h1, -, h3, -, h5, -⟩ := h
  obtain ⟨v, ps, hrun, hv⟩ := h1.lookup keyedI Tryz.underlying81 (z := zsec) (Tryz.zeroValue107 w) (rsec_mk _) (keyI i hi)
  rw [h5 i hp] at hv
  obtain ⟨xs, rfl, hx⟩ := rsec_inv hv
  rw [secD_inj hx]
  exact hrun
/-- 'len(m)' -/
theorem Mp.len {w : World} {g : Nat} {p : List Nat} {L : List (List Int)} (h : Mp w g p L) (ty : TypeId) : (Builtin.len_ #[81] ty #[.map (some g)]).run Tryz.prog w = .ok (.int .i64 (p.length : Nat)) w := by
  obtain ⟨D, h1, -, -, -, -, h6⟩ := h
  rw [← h6]
  exact h1.len Tryz.underlying81 ty
theorem setBlock_bar {w : World} {g : Nat} (o : Obj) : Bar [g] w (setBlock w g o) := ⟨rfl, rfl, rfl, by simp [setBlock], fun k _ hn => by
  have hk : k ≠ g := by simpa using hn
  simp [setBlock, Ne.symm hk]⟩
/-- 'clear(m)' -/
theorem Mp.clear {w : World} {g : Nat} {p : List Nat} {L : List (List Int)} (h : Mp w g p L) (L' : List (List Int)) : ∃ w', (∀ ty, (Builtin.clear_ #[81] ty #[.map (some g)]).run Tryz.prog w = .ok (.tuple #[]) w') ∧ Mp w' g [] L' ∧ Bar [g] w w' := by
  obtain ⟨D, ⟨es, clock, h1, -⟩, -⟩ := h
  refine ⟨setBlock w g (.map #[] clock), fun ty => ?_, mp_empty _ _ clock _ (heap_setBlock_same h1 _), setBlock_bar _⟩
  simp [Builtin.clear_, run_underlying Tryz.underlying81, MapKept.run_getObj_map h1, MapKept.run_setObj_map _ h1, Result.andThen, setBlock]
theorem mem_ins_nodup {i : Nat} {p : List Nat} (h : p.Pairwise (· < ·)) : (ins i p).Nodup := (ins_rise i p h).imp (fun hlt => by omega)
theorem ins_len {i : Nat} {p : List Nat} (h : i ∉ p) : (ins i p).length = p.length + 1 := by
  induction p with
  | nil => rfl
  | cons k l ih =>
    have h1 : i ≠ k := fun e => h (by simp [e])
    have h2 : i ∉ l := fun e => h (by simp [e])
    unfold ins
    split
    · simp [ih h2]
    · split
      · rename_i e; exact absurd e.symm h1
      · simp
theorem litI_ne {i j : Nat} (h : i ≠ j) : (Lit.int .i64 (i : Int)) ≠ .int .i64 (j : Int) := fun e => by injection e with _ e; omega
/-- 'm[i] = x', of one that is not there yet -/
theorem Mp.put {w : World} {g : Nat} {p : List Nat} {L : List (List Int)} (h : Mp w g p L) (i : Nat) (hi : i < 9000) (hp : i ∉ p) (hr : p.Pairwise (· < ·)) (hl : p.length < 9000) (xs : List Int) (hx : rowOf L i = xs) :
    ∃ w', (Instr.mapUpdate 81 (.map (some g)) (.int .i64 (i : Int)) (.agg (arr .u8 xs))).run Tryz.prog w = .ok () w' ∧ Mp w' g (ins i p) L ∧ Bar [g] w w' := by
  obtain ⟨D, h1, h2, h3, h4, h5, h6⟩ := h
  obtain ⟨w', hrun, own, gr⟩ := h1.update keyedI Tryz.underlying81 (by unfold maxLen; omega) (keyI i hi) (rsec_mk xs)
  have hk : WideAt.IsKeyLit (.int .i64 (i : Int)) := trivial
  have hno : has D (.int .i64 (i : Int)) = false := by rw [h3]; simpa using hp
  have hsz : Maps.size (D.put (.int .i64 (i : Int)) (secD xs)) = p.length + 1 := by
    rw [size_put (h1.tidy keyedI), if_neg (by rw [hno]; decide), h6]
  refine ⟨w', hrun, ⟨D.put (.int .i64 (i : Int)) (secD xs), ?_, mem_ins_nodup hr, fun j => ?_, fun x hx0 => ?_, fun j hj z => ?_, ?_⟩, ⟨gr.os, gr.tape, gr.output, gr.size, fun k hk hn => gr.block k hk (fun e => hn (by injection e with e; simp [e]))⟩⟩
  · rw [ins_len hp]; exact own
  · by_cases hij : j = i
    · subst hij
      rw [has_put_same h1.isMap hk]
      simp [ins_mem]
    · rw [has_put_other (litI_ne hij), h3]
      simp [ins_mem, hij]
  · rw [has_put_other (fun e => by injection e with _ e; omega)]
    exact h4 x hx0
  · by_cases hij : j = i
    · subst hij
      rw [atKey_put_same h1.isMap hk, hx]
    · rw [atKey_put_other (litI_ne hij)]
      exact h5 j (((ins_mem i j p).1 hj).resolve_left hij) z
  · rw [hsz, ins_len hp]
/-- the keys, sorted -/
theorem mp_keys {w : World} {g : Nat} {p : List Nat} {D : DataW Unit} (own : w.ownsMap Tryz.prog 3 Rsec g p.length D) (hr : p.Pairwise (· < ·)) (h3 : ∀ i : Nat, has D (.int .i64 (i : Int)) = decide (i ∈ p)) (h4 : ∀ x : Int, x < 0 → has D (.int .i64 x) = false)
    {ss : List Int} (hp : ss.Perm (intKeys D)) : ss.mergeSort (fun x y => decide (x ≤ y)) = p.map fun (i : Nat) => (i : Int) := by
  obtain ⟨es, hD, hpw⟩ := own.tidy keyedI
  have hko : ∀ q ∈ es, ∃ x, q.1 = .int .i64 x := by
    obtain ⟨es', clock, -, F, -, hD'⟩ := own
    rw [hD] at hD'
    injection hD' with hD'
    intro q hq
    rw [hD'] at hq
    have hq2 := (WideShapes.sorted_perm _).mem_iff.1 hq
    obtain ⟨e, he, rfl⟩ := List.mem_map.1 hq2
    obtain ⟨y, hy⟩ := F.reads e he
    have := WideElems.rd_key hy
    obtain ⟨x, -, hx, -⟩ := Maps.keyOf_i64 Tryz.underlying3 this
    exact ⟨x, by rw [WideElems.rg_of hy]; exact hx⟩
  have hs : (p.map fun (i : Nat) => (i : Int)).Pairwise (fun a b => a < b) := List.pairwise_map.2 (hr.imp (fun h => by omega))
  have h := perm_intKeys hpw hko (ss := p.map fun (i : Nat) => (i : Int)) (hs.imp (fun h => by omega)) (fun x => by
    rw [← hD]
    by_cases hx : x < 0
    · rw [h4 x hx]
      simp only [List.mem_map, Bool.false_eq_true, iff_false]
      rintro ⟨i, -, rfl⟩
      omega
    · obtain ⟨i, rfl⟩ : ∃ i : Nat, x = i := ⟨x.toNat, by omega⟩
      rw [h3 i]
      simp only [List.mem_map, decide_eq_true_eq]
      exact ⟨fun ⟨j, hj, e⟩ => by rw [show i = j by omega]; exact hj, fun hi => ⟨i, hi, rfl⟩⟩)
  rw [← hD] at h
  rw [show ss.mergeSort (fun x y => decide (x ≤ y)) = ss.mergeSort leI from rfl, mergeSort_of_perm_i (hp.trans h.symm)]
  exact List.mergeSort_of_pairwise (hs.imp (fun h => by simp only [leI, decide_eq_true_eq]; omega))
end Go.Proofs.YtjlhnhkjgcbnnaaGreat.Disk

/-
  Rows of bools that are read.
-/



namespace Go.Proofs.YtjlhnhkjgcbnnaaGreat.Sha
open Go.RowKit Go.ChangeShapes Go.WideShapes Go.Deep

/-- a slice of bools in memory, to be read: they are bs -/
def Rb (w : World) (A : Option Addr) (n : Nat) (bs : List Bool) : Prop :=
  bs.length = n ∧ (n = 0 ∨ ∃ b o, A = some ⟨b, o, none⟩ ∧ ∀ i, i < n → w.cell? ⟨b, o + i, none⟩ = some (.bool (bs.getD i false)))
theorem Rb.bar {w w' : World} {A : Option Addr} {n : Nat} {xs : List Bool} {l : List Nat} (r : Rb w A n xs) (b : Bar l w w') (hl : ∀ x ∈ l, w.heap.size ≤ x ∨ ∀ o, A ≠ some ⟨x, o, none⟩) : Rb w' A n xs := by
  obtain ⟨h1, h3⟩ := r
  refine ⟨h1, h3.imp id ?_⟩
  rintro ⟨bb, o, rfl, hc⟩
  refine ⟨bb, o, rfl, fun i hi => ?_⟩
  have hlt : bb < w.heap.size := World.block_lt_of_cell? _ _ (hc i hi)
  rw [← hc i hi]
  refine World.cell?_of_block (w := w) (b.block bb hlt (fun hm => ?_))
  rcases hl bb hm with h | h
  · omega
  · exact h o rfl
theorem Rb.below {w w' : World} {A : Option Addr} {n : Nat} {xs : List Bool} (r : Rb w A n xs) (b : Below w.heap.size w w') : Rb w' A n xs := r.bar (l := []) (barOf b []) (by simp)
theorem Rb.far {w w' : World} {A : Option Addr} {n : Nat} {xs : List Bool} {F : List Nat} (r : Rb w A n xs) (b : Bar F w w') (h : Off A n F) : Rb w' A n xs := by
  rcases h with rfl | ⟨g, o, rfl, hg⟩
  · exact ⟨r.1, .inl rfl⟩
  · exact r.bar b (fun x hx => .inr fun o' ho => by injection ho with ho; injection ho with ho; exact hg (ho ▸ hx))
theorem Rb.off {w : World} {A : Option Addr} {n : Nat} {xs : List Bool} {F : List Nat} (r : Rb w A n xs) (h : ∀ k ∈ F, w.heap.size ≤ k) : Off A n F := by
  rcases r.2 with h0 | ⟨b, o, rfl, hc⟩
  · exact .inl h0
  · by_cases h0 : n = 0
    · exact .inl h0
    · refine .inr ⟨b, o, rfl, fun hb => ?_⟩
      have := World.block_lt_of_cell? _ _ (hc 0 (by omega))
      have := h b hb
      simp at *
      omega
theorem Rb.nil_ {w : World} {A : Option Addr} : Rb w A 0 [] := ⟨rfl, .inl rfl⟩
section
variable {H : Type} {enc : TypeId × Value → H} {P : Program} {w : World} {base : Nat} {held : Bool}
/-- bools that came in, in a field or as an argument -/
theorem bools_field {t e : TypeId} {n : Nat} {v : Value} {y : DataW H × List MemPlace} (ht : P.underlying t = some (.slice e)) (he : P.underlying e = some .bool) (hc : P.cellsOf e = 1) (h : DataW.trod enc P w base (fun _ => true) held n t [v] = some y) :
    ∃ A l c bs, v = .slice A l c ∧ l ≤ c ∧ c ≤ 9223372036854775807 ∧ Rb w A l bs := by
  rcases open_bools ht he hc h with ⟨hcs, _⟩ | ⟨a, l, c, B, hcs, _, hl, hm, _, hcell⟩
  · simp at hcs
    exact ⟨none, 0, 0, [], hcs, Nat.le_refl _, by omega, Rb.nil_⟩
  · simp at hcs
    unfold maxLen at hm
    refine ⟨some a, l, c, (List.range l).map B, hcs, hl, by omega, by simp, ?_⟩
    by_cases h0 : l = 0
    · exact .inl h0
    · refine .inr ?_
      obtain ⟨b, o, spot⟩ := a
      have hspot : spot = none := by
        have hc0 := hcell 0 (by omega)
        simpa [Addr.add] using World.cell?_spot hc0
      subst hspot
      refine ⟨b, o, rfl, fun i hi => ?_⟩
      have := hcell i (by omega)
      have e1 : (⟨b, o, none⟩ : Addr).add i = ⟨b, o + i, none⟩ := by cases i <;> simp [Addr.add]
      rw [e1] at this
      rw [this]
      simp [hi]
theorem bools_arg {t e : TypeId} {A : Option Addr} {l c : Nat} {d : DataW H} {p : List MemPlace} (ht : P.underlying t = some (.slice e)) (he : P.underlying e = some .bool) (hc : P.cellsOf e = 1) (h : DataW.Trod enc P w base (fun _ => true) held t (.slice A l c) d p) :
    l ≤ c ∧ c ≤ 9223372036854775807 ∧ ∃ bs, Rb w A l bs := by
  obtain ⟨fuel, hf⟩ := h
  obtain ⟨A', l', c', bs, hv, h1, h2, h3⟩ := bools_field ht he hc hf
  injection hv with e1 e2 e3
  subst e1 e2 e3
  exact ⟨h1, h2, bs, h3⟩
end
end Go.Proofs.YtjlhnhkjgcbnnaaGreat.Sha

/-
  What calls of a disk leave behind; what a law leaves behind.
-/



namespace Go.Proofs.YtjlhnhkjgcbnnaaGreat.Disk
open Go.RowKit Go.Proofs.YtjlhnhkjgcbnnaaGreat.Sha

/-- a row that may be written: new, and none of the disk's -/
def Mine (w : World) (A : Option Addr) (n B : Nat) (F : List Nat) : Prop := n = 0 ∨ ∃ g o, A = some ⟨g, o, none⟩ ∧ B ≤ g ∧ g ∉ F ∧ ∀ i, i < n → w.frozen? ⟨g, o + i, none⟩ = false
def CNewPost (Dk : World → List Nat → Nat → Nat → DS → Prop) (w : World) (n : Nat) (e : Ending) (w' : World) : Prop := ∃ d F, e = .returned (.tuple #[.pointer (some ⟨d, 0, none⟩), .int .i64 0]) ∧ Dk w' F d n (newD n) ∧ Fp [] F w w'
def StepPost (D : World → List Nat → DS → Prop) (w : World) (F : List Nat) (r : Int × DS) (e : Ending) (w' : World) : Prop := e = .returned (.int .i64 r.1) ∧ ∃ F', D w' F' r.2 ∧ Fp F F' w w'
def ReadPost (D : World → List Nat → Prop) (w : World) (F : List Nat) (r : Int × List Int) (e : Ending) (w' : World) : Prop := ∃ A c F', e = .returned (.tuple #[.slice A r.2.length c, .int .i64 r.1]) ∧ Rd w' A r.2.length r.2 ∧ Mine w' A r.2.length w.heap.size F' ∧ r.2.length ≤ c ∧ c ≤ 9223372036854775807 ∧ D w' F' ∧ Fp F F' w w'
/-- a law that holds: it answers true, and what was there ahead is as it was -/
def Holds (w : World) (e : Ending) (w' : World) : Prop := e = .returned (.bool true) ∧ Below w.heap.size w w'
theorem step_fp {w w1 w2 : World} {F F' : List Nat} (B : Kept (Below w.heap.size w w1)) (f : Fp F F' w1 w2) (hF : Kept (∀ k ∈ F, w.heap.size ≤ k)) : Kept (Below w.heap.size w w2) ∧ Kept (∀ k ∈ F', w.heap.size ≤ k) :=
  ⟨⟨B.out.trans (f.below hF.out B.out.size)⟩, ⟨f.least hF.out B.out.size⟩⟩
theorem step_below {w w1 w2 : World} (B : Kept (Below w.heap.size w w1)) (b : Below w1.heap.size w1 w2) : Kept (Below w.heap.size w w2) := ⟨B.out.trans (b.mono B.out.size)⟩
theorem none_least (B : Nat) : Kept (∀ k ∈ ([] : List Nat), B ≤ k) := ⟨by simp⟩
theorem mk64 (w : World) : ∃ w', (Instr.makeSlice 38 (.int .i64 64) (.int .i64 64)).run Tryz.prog w = .ok (.slice (some ⟨w.heap.size, 0, none⟩) 64 64) w' ∧ Rd w' (some ⟨w.heap.size, 0, none⟩) 64 zeros64 ∧ Blk w' w.heap.size 5 (arr .u8 zeros64) ∧ Below w.heap.size w w' := by
  obtain ⟨w', h1, h2, h3⟩ := make_blk w 64 (by omega)
  exact ⟨w', h1, Rd.blk h2 sec_zeros.2 rfl, h2, h3⟩
theorem new_off {F : List Nat} {g n o : Nat} (h : ∀ k ∈ F, k < g) : Off (some ⟨g, o, none⟩) n F := .inr ⟨g, o, rfl, fun hk => by have := h g hk; omega⟩
end Go.Proofs.YtjlhnhkjgcbnnaaGreat.Disk

/-
  Package disk: its Disk in memory.
-/




namespace Go.Proofs.YtjlhnhkjgcbnnaaGreat.Disk
open Go.RowKit Go.Proofs.YtjlhnhkjgcbnnaaGreat.Sha

/-- behind a store of many cells -/
theorem blk_setCells {g : Nat} {t : TypeId} : ∀ (vs : List Value) (o : Nat) (w : World) (cs : Array Value), Blk w g t cs →
    ∃ cs', Blk (w.setCells g o vs) g t cs' ∧ cs'.size = cs.size ∧ ∀ k, k < cs.size → cs'[k]? = if o ≤ k ∧ k < o + vs.length then vs[k - o]? else cs[k]?
  | [], o, w, cs, h => ⟨cs, h, rfl, fun k _ => by rw [if_neg (by simp)]⟩
  | v :: r, o, w, cs, h => by
    obtain ⟨cs', h1, h2, h3⟩ := blk_setCells r (o + 1) _ _ (h.set_ o v)
    refine ⟨cs', h1, by simpa using h2, fun k hk => ?_⟩
    rw [h3 k (by simpa using hk), Array.getElem?_setIfInBounds]
    by_cases ho : o = k
    · subst ho
      rw [if_neg (by omega), if_pos rfl, if_pos hk, if_pos (show o ≤ o ∧ o < o + (v :: r).length from ⟨Nat.le_refl _, by simp⟩), Nat.sub_self]
      rfl
    · by_cases hr : o + 1 ≤ k ∧ k < o + 1 + r.length
      · rw [if_pos hr, if_pos (by simp only [List.length_cons]; omega), show k - o = (k - (o + 1)) + 1 by omega, List.getElem?_cons_succ]
      · rw [if_neg hr, if_neg ho, if_neg (by simp only [List.length_cons]; omega)]
theorem bar_setCells (g : Nat) : ∀ (vs : List Value) (o : Nat) (w : World), Bar [g] w (w.setCells g o vs)
  | [], _, w => Bar.refl _ w
  | v :: r, o, w => ((Bar.refl [g] w).setCell (p := ⟨g, o, none⟩) (by simp) v).trans (bar_setCells g r (o + 1) _) (by simp)
/-- sectors in a row's block, one behind the other -/
def Sx (w : World) (g : Nat) (l : List (List Int)) : Prop := ∃ cs, Blk w g 107 cs ∧ ∀ i, i < l.length → ∀ j, j < 64 → cs[i * 64 + j]? = some (.int .u8 (at_ (rowOf l i) j))
theorem Sx.lt {w : World} {g : Nat} {l : List (List Int)} (h : Sx w g l) : g < w.heap.size := by
  obtain ⟨cs, h1, -⟩ := h
  exact h1.lt
theorem Sx.bar {w w' : World} {g : Nat} {l : List (List Int)} {G : List Nat} (h : Sx w g l) (b : Bar G w w') (hg : g ∉ G) : Sx w' g l := by
  obtain ⟨cs, h1, h2⟩ := h
  exact ⟨cs, h1.bar b hg, h2⟩
theorem Sx.range {w : World} {g : Nat} {l : List (List Int)} (h : Sx w g l) (i : Nat) (hi : i < l.length) (h64 : (rowOf l i).length = 64) : w.rangeAt g (i * 64) (ints .u8 (rowOf l i)) := by
  obtain ⟨cs, h1, h2⟩ := h
  intro j v hj
  have hjl : j < (rowOf l i).length := by have := (List.getElem?_eq_some_iff.1 hj).1; rwa [ints_len] at this
  rw [Sha.ints_at _ _ _ hjl] at hj
  rw [h1.cell, h2 i hi j (by omega), hj]
theorem info_sec : (Tryz.prog.info? 107).map (·.size) = some 64 := by kernel_rfl
/-- a sector is loaded -/
theorem Sx.load {w : World} {g : Nat} {l : List (List Int)} (h : Sx w g l) (i : Nat) (hi : i < l.length) (h64 : (rowOf l i).length = 64) : (Instr.loadAt 107 (.pointer (some ⟨g, i * 64, none⟩))).run Tryz.prog w = .ok (.agg (arr .u8 (rowOf l i))) w :=
  run_loadAt_mid w g (i * 64) 107 (ints .u8 (rowOf l i)) _ (h.range i hi h64) Tryz.underlying107 rfl (by rw [info_sec, ints_len, h64])
/-- a sector is stored -/
theorem Sx.store {w : World} {g : Nat} {l : List (List Int)} (h : Sx w g l) (i : Nat) (hi : i < l.length) (x : List Int) (h64 : x.length = 64) : ∃ w', (Instr.storeAt 107 (.pointer (some ⟨g, i * 64, none⟩)) (.agg (arr .u8 x))).run Tryz.prog w = .ok () w' ∧ Sx w' g (l.set i x) ∧ Bar [g] w w' := by
  obtain ⟨cs, h1, h2⟩ := h
  have hsz : (arr .u8 x).size = 64 := by rw [arr_size, h64]
  refine ⟨_, run_storeAt_mid w g (i * 64) 107 (arr .u8 x) (fun j hj => ⟨?_, h1.frozen _⟩) (by rw [info_sec, hsz]) (all_oneCell_toArray (ints_one _ _)), ?_, bar_setCells _ _ _ _⟩
  · rw [h1.cell, h2 i hi j (by omega)]; rfl
  · obtain ⟨cs', k1, k2, k3⟩ := blk_setCells (arr .u8 x).toList (i * 64) w cs h1
    have hl : (arr .u8 x).toList = ints .u8 x := rfl
    refine ⟨cs', k1, fun i' hi' j hj => ?_⟩
    rw [List.length_set] at hi'
    have hc := h2 i' hi' j hj
    rw [k3 _ (Array.getElem?_eq_some_iff.1 hc).1, rowOf_set _ _ _ _ hi', hl, ints_len, h64]
    by_cases hii : i = i'
    · subst hii
      rw [if_pos (by omega), if_pos rfl, show i * 64 + j - i * 64 = j by omega, Sha.ints_at _ _ _ (by omega)]
    · rw [if_neg (by omega), if_neg hii, hc]
def u01 : Bool → Int
  | true => 1
  | false => 0
theorem u01_ne (b : Bool) : (u01 b != 0) = b := by cases b <;> rfl
/-- package disk's Disk at block d -/
def Dk (w : World) (F : List Nat) (d n : Nat) (s : DS) : Prop := WF n s ∧ ∃ gw cw gm f, Blk w d 83 #[.slice (some ⟨gw, 0, none⟩) n cw, .map (some gm), .int .i64 f, .int .u32 (u01 s.down)] ∧
  Sx w gw s.now ∧ Mp w gm s.pend s.last ∧ (if f < -1 then -1 else f) = s.fuse ∧ F = d :: gw :: gm :: []
theorem Dk.lts {w : World} {F : List Nat} {d n : Nat} {s : DS} (h : Dk w F d n s) : ∀ k ∈ F, k < w.heap.size := by
  obtain ⟨-, gw, cw, gm, f, h1, h2, h3, -, rfl⟩ := h
  intro k hk
  simp only [List.mem_cons, List.not_mem_nil, or_false] at hk
  rcases hk with rfl | rfl | rfl
  · exact h1.lt
  · exact h2.lt
  · exact h3.lt
theorem Dk.keep {w w' : World} {F G : List Nat} {d n : Nat} {s : DS} (h : Dk w F d n s) (b : Bar G w w') (j : Disj F G) : Dk w' F d n s := by
  obtain ⟨h0, gw, cw, gm, f, h1, h2, h3, h4, rfl⟩ := h
  exact ⟨h0, gw, cw, gm, f, h1.bar b (j d (by simp)), h2.bar b (j gw (by simp)), h3.bar b (j gm (by simp)), h4, rfl⟩

theorem dk_0 (a b c e : Value) : (#[a, b, c, e] : Array Value)[0]? = some a := rfl
theorem dk_1 (a b c e : Value) : (#[a, b, c, e] : Array Value)[1]? = some b := rfl
theorem dk_2 (a b c e : Value) : (#[a, b, c, e] : Array Value)[2]? = some c := rfl
theorem dk_3 (a b c e : Value) : (#[a, b, c, e] : Array Value)[3]? = some e := rfl
/-- is there a sector i? -/
def hasB (n : Nat) (i : Int) : Bool := decide (0 ≤ i ∧ i < n)
/-- the struct's block is written, the rest stays -/
theorem Dk.turn {w w' : World} {F : List Nat} {d n : Nat} {s t : DS} {gw cw gm : Nat} {f : Int} (hF : F = d :: gw :: gm :: []) (h1 : ∃ cs, Blk w d 83 cs) (h2 : Sx w gw s.now) (h3 : Mp w gm s.pend s.last) (hw : WF n t)
    (e1 : t.now = s.now) (e2 : t.pend = s.pend) (e3 : t.last = s.last) (k : Blk w' d 83 #[.slice (some ⟨gw, 0, none⟩) n cw, .map (some gm), .int .i64 f, .int .u32 (u01 t.down)]) (hf : (if f < -1 then -1 else f) = t.fuse) (b : Bar [d] w w') : Dk w' F d n t ∧ Fp F F w w' := by
  subst hF
  obtain ⟨cs, h1⟩ := h1
  have n1 : gw ≠ d := by obtain ⟨cs', k', -⟩ := h2; exact blk_ne k' h1 (by decide)
  have n2 : gm ≠ d := h3.ne h1
  refine ⟨⟨hw, gw, cw, gm, f, k, by rw [e1]; exact h2.bar b (by simpa using n1), by rw [e2, e3]; exact h3.bar b (by simpa using n2), hf, rfl⟩, b.mono (by simp), fun k hk => .inl hk⟩
def BurnPost (w : World) (F : List Nat) (d n : Nat) (s : DS) (e : Ending) (w' : World) : Prop := e = .returned (.bool (!(burnD s).1)) ∧ Dk w' F d n (burnD s).2 ∧ Fp F F w w'
end Go.Proofs.YtjlhnhkjgcbnnaaGreat.Disk

/-
  A row of texts of the call's own: one more is appended; it is read.
-/


namespace Go.Proofs.YtjlhnhkjgcbnnaaGreat.Sha
open Go.RowKit

/-- a row of the call's own, whose cells are texts that lie in other blocks -/
def Ot (w : World) (base : Nat) (e : TypeId) (v : Value) (L : List (List Int)) : Prop :=
  ∃ cs : List Value, w.ownsRow base e 1 v L.length cs ∧ ∀ i, i < L.length → ∃ a l c, cs[i]? = some (.slice a l c) ∧ l ≤ c ∧ c ≤ 9223372036854775807 ∧ Rd w a l (L.getD i []) ∧ Off a l v.ownBlock.toList
theorem Ot.rws {w : World} {base : Nat} {e : TypeId} {v : Value} {L : List (List Int)} (h : Ot w base e v L) : ∃ A cap, v = .slice A L.length cap ∧ L.length ≤ cap ∧ cap ≤ 9223372036854775807 ∧ Rws w A L.length (fun i => L.getD i []) := by
  obtain ⟨cs, ho, hc⟩ := h
  rcases ho.2 with ⟨rfl, h0⟩ | ⟨g, cap, cur, rfl, hg, _, h1, h2, _⟩
  · exact ⟨none, 0, by rw [h0], by omega, by omega, .inl h0⟩
  · unfold maxLen at h2
    refine ⟨some ⟨g, 0, none⟩, cap, rfl, h1, by omega, .inr ⟨g, 0, rfl, fun r hr => ?_⟩⟩
    obtain ⟨a, l, c, k1, k2, k3, k4, -⟩ := hc r hr
    refine ⟨a, l, c, ?_, k2, k3, k4⟩
    rw [Nat.zero_add, World.ownsRow.cellAt ho r (by omega)]
    exact k1
theorem Ot.keep {w w' : World} {base : Nat} {e : TypeId} {v : Value} {L : List (List Int)} {F : List Nat} (h : Ot w base e v L) (b : Bar F w w') (hv : ∀ g ∈ v.ownBlock.toList, g ∉ F) (hf : ∀ i a l, i < L.length → Rd w a l (L.getD i []) → Off a l F) : Ot w' base e v L := by
  obtain ⟨cs, ho, hc⟩ := h
  refine ⟨cs, own_keep ho b hv, fun i hi => ?_⟩
  obtain ⟨a, l, c, k1, k2, k3, k4, k5⟩ := hc i hi
  exact ⟨a, l, c, k1, k2, k3, k4.far b (hf i a l hi k4), k5⟩
theorem Ot.below {w w' : World} {base : Nat} {e : TypeId} {v : Value} {L : List (List Int)} (h : Ot w base e v L) (b : Below w.heap.size w w') : Ot w' base e v L :=
  h.keep (barOf b []) (fun _ _ => by simp) (fun _ _ _ _ r => r.off (fun _ hk => by simp at hk))
theorem Ot.nil (w : World) (base : Nat) (e : TypeId) : Ot w base e (.slice none 0 0) [] := ⟨[], World.ownsRow_nil _ _ _ _, fun _ hi => absurd hi (Nat.not_lt_zero _)⟩
/-- one more -/
theorem wpList_append_text {P : Program} {w : World} {ops : Array Oper} {rest : List Oper} {o : Oper} {a : Act} {Q : Exit → Act → World → Prop} (hgd : o.guard = none) (s x : Operand) (t : TypeId)
    (ho : o.op = .call { callee := .builtin .append, args := #[s, x], argTypes := #[t, t] })
    (base : Nat) (e : TypeId) (ht : P.underlying t = some (.slice e)) (hi : (P.info? e).map (fun i => (i.zero, i.size, i.bytes)) = some (some (.slice none 0 0), 1, 24))
    (v : Value) (L : List (List Int)) (hs : a.eval s = v) (hown : Ot w base e v L)
    (k kc : Nat) (A : Option Addr) (l c : Nat) (b : List Int) (hx : a.eval x = .slice (some ⟨k, 0, none⟩) 1 kc) (hcell : w.cell? ⟨k, 0, none⟩ = some (.slice A l c)) (hr : Rd w A l b) (hlc : l ≤ c) (hc : c ≤ 9223372036854775807) (hoff : Off A l v.ownBlock.toList)
    (hsmall : L.length ≤ 4294967296) (hbase : base ≤ w.heap.size)
    (h : ∀ v' w', Kept (Ot w' base e v' (L ++ [b])) → w.grownBy w' v.ownBlock → (v'.ownBlock = v.ownBlock ∨ v'.ownBlock = some w.heap.size) → wpList P ops Q rest (a.put o.dst v') w') : wpList P ops Q (o :: rest) a w := by
  obtain ⟨iu, hi, hz0, hz1, hz2⟩ := info_parts hi
  obtain ⟨cs, hown, hcs⟩ := hown
  have hcl : cs.length = L.length := by have := hown.1; omega
  refine wpList_append_own_at w hgd s x t ho base e iu (.slice none 0 0) 1 24 ht hi hz0 hz1 hz2 rfl (by omega) v L.length cs hs hown ⟨k, 0, none⟩ 1 kc [.slice A l c] hx rfl (fun j u hj => ?_) (fun u hu => by rw [List.mem_singleton] at hu; subst hu; rfl) (by unfold maxLen; omega) (by omega) hbase (fun v' w' a1 a2 _ a3 => h v' w' ⟨?_⟩ a2 a3)
  · have hj0 : j = 0 := by have := (List.getElem?_eq_some_iff.1 hj).1; simpa using this
    subst hj0
    rw [List.getElem?_cons_zero, Option.some.injEq] at hj
    rw [← hj]; exact hcell
  · have fp : Fp v.ownBlock.toList v'.ownBlock.toList w w' := ⟨Bar.grownRow a2, fun g hg => by
      rcases a3 with a3 | a3
      · rw [a3] at hg; exact .inl hg
      · rw [a3] at hg
        simp only [Option.toList_some, List.mem_singleton] at hg
        exact .inr (by omega)⟩
    refine ⟨cs ++ [.slice A l c], by rw [List.length_append]; exact a1, fun i hi => ?_⟩
    rw [List.length_append, List.length_singleton] at hi
    by_cases hiL : i < L.length
    · obtain ⟨a0, l0, c0, k1, k2, k3, k4, k5⟩ := hcs i hiL
      have e1 : (L ++ [b]).getD i [] = L.getD i [] := by simp [List.getD_eq_getElem?_getD, List.getElem?_append_left hiL]
      rw [e1]
      exact ⟨a0, l0, c0, by rw [List.getElem?_append_left (by omega)]; exact k1, k2, k3, k4.far fp.1 k5, k5.step k4 fp⟩
    · obtain rfl : i = L.length := by omega
      have e1 : (L ++ [b]).getD L.length [] = b := by simp [List.getD_eq_getElem?_getD]
      rw [e1]
      exact ⟨A, l, c, by rw [← hcl]; simp, hlc, hc, hr.far fp.1 hoff, hoff.step hr fp⟩
end Go.Proofs.YtjlhnhkjgcbnnaaGreat.Sha

/-
  A text, and a row of texts of the call's own, with the blocks in which they lie. For any seat.
-/


namespace Go.Proofs.YtjlhnhkjgcbnnaaGreat.Sha
open Go.RowKit

/-- a text's bytes lie in one of these blocks -/
def In (A : Option Addr) (n : Nat) (G : List Nat) : Prop := n = 0 ∨ ∃ g o, A = some ⟨g, o, none⟩ ∧ g ∈ G
theorem In.off {A : Option Addr} {n : Nat} {G K : List Nat} (h : In A n G) (d : Disj G K) : Off A n K := by
  rcases h with h | ⟨g, o, rfl, hg⟩
  · exact .inl h
  · exact .inr ⟨g, o, rfl, d g hg⟩
theorem In.mono {A : Option Addr} {n : Nat} {G G' : List Nat} (h : In A n G) (hs : ∀ k ∈ G, k ∈ G') : In A n G' := by
  rcases h with h | ⟨g, o, rfl, hg⟩
  · exact .inl h
  · exact .inr ⟨g, o, rfl, hs g hg⟩
/-- bytes that lie in no old block lie in a new one -/
theorem in_new {w : World} {A : Option Addr} {n B : Nat} {xs : List Int} (r : Rd w A n xs) (h : ∀ F : List Nat, (∀ k ∈ F, k < B) → Off A n F) : ∃ G : List Nat, In A n G ∧ ∀ k ∈ G, B ≤ k ∧ k < w.heap.size := by
  by_cases h0 : n = 0
  · exact ⟨[], .inl h0, by simp⟩
  · rcases h (List.range B) (by simp) with h | ⟨g, o, rfl, hg⟩
    · exact absurd h h0
    · obtain ⟨b, o', e, hc⟩ := r.2.2.resolve_left h0
      injection e with e; injection e with e1 e2
      subst e1 e2
      have hlt : g < w.heap.size := World.block_lt_of_cell? _ _ (hc 0 (by omega))
      exact ⟨[g], .inr ⟨g, o, rfl, by simp⟩, fun k hk => by
        rw [List.mem_singleton] at hk; subst hk
        exact ⟨by simpa using hg, hlt⟩⟩
theorem in_own {w : World} {base size : Nat} {e : TypeId} {A : Option Addr} {n c : Nat} {xs : List Value} (h : w.ownsRow base e size (.slice A n c) n xs) : In A n (Value.slice A n c).ownBlock.toList := by
  rcases h.2 with ⟨e1, h0⟩ | ⟨g, cap, cur, hv, -⟩
  · exact .inl h0
  · injection hv with e1 e2 e3
    subst e1
    exact .inr ⟨g, 0, rfl, by simp [Value.ownBlock]⟩

/-- a row of the call's own, whose cells are texts; all of it lies in the blocks G -/
def Og (w : World) (e : TypeId) (v : Value) (L : List (List Int)) (G : List Nat) : Prop :=
  ∃ cs : List Value, w.ownsRow 0 e 1 v L.length cs ∧ (∀ g ∈ v.ownBlock.toList, g ∈ G) ∧
    ∀ i, i < L.length → ∃ a l c, cs[i]? = some (.slice a l c) ∧ l ≤ c ∧ c ≤ 9223372036854775807 ∧ Rd w a l (L.getD i []) ∧ In a l G ∧ Off a l v.ownBlock.toList
theorem Og.ot {w : World} {e : TypeId} {v : Value} {L : List (List Int)} {G : List Nat} (h : Og w e v L G) : Ot w 0 e v L := by
  obtain ⟨cs, h1, -, h3⟩ := h
  refine ⟨cs, h1, fun i hi => ?_⟩
  obtain ⟨a, l, c, k1, k2, k3, k4, -, k6⟩ := h3 i hi
  exact ⟨a, l, c, k1, k2, k3, k4, k6⟩
theorem Og.keep {w w' : World} {e : TypeId} {v : Value} {L : List (List Int)} {G K : List Nat} (h : Og w e v L G) (b : Bar K w w') (d : Disj G K) : Og w' e v L G := by
  obtain ⟨cs, ho, hv, hc⟩ := h
  refine ⟨cs, own_keep ho b (fun g hg => d g (hv g hg)), hv, fun i hi => ?_⟩
  obtain ⟨a, l, c, k1, k2, k3, k4, k5, k6⟩ := hc i hi
  exact ⟨a, l, c, k1, k2, k3, k4.far b (k5.off d), k5, k6⟩
theorem Og.mono {w : World} {e : TypeId} {v : Value} {L : List (List Int)} {G G' : List Nat} (h : Og w e v L G) (hs : ∀ k ∈ G, k ∈ G') : Og w e v L G' := by
  obtain ⟨cs, ho, hv, hc⟩ := h
  refine ⟨cs, ho, fun g hg => hs g (hv g hg), fun i hi => ?_⟩
  obtain ⟨a, l, c, k1, k2, k3, k4, k5, k6⟩ := hc i hi
  exact ⟨a, l, c, k1, k2, k3, k4, k5.mono hs, k6⟩
theorem Og.nil (w : World) (e : TypeId) (G : List Nat) : Og w e (.slice none 0 0) [] G := ⟨[], World.ownsRow_nil _ _ _ _, by simp [Value.ownBlock], fun _ hi => absurd hi (Nat.not_lt_zero _)⟩
theorem Og.shape {w : World} {e : TypeId} {v : Value} {L : List (List Int)} {G : List Nat} (h : Og w e v L G) : ∃ A c, v = .slice A L.length c := by
  obtain ⟨cs, ho, -⟩ := h
  exact own_shape ho
theorem Og.rws {w : World} {e : TypeId} {v : Value} {L : List (List Int)} {G : List Nat} (h : Og w e v L G) : ∃ A cap, v = .slice A L.length cap ∧ L.length ≤ cap ∧ cap ≤ 9223372036854775807 ∧ Rws w A L.length (fun i => L.getD i []) := h.ot.rws
/-- one more -/
theorem run_append_og {P : Program} {w : World} (t ty e : TypeId) (ht : P.underlying t = some (.slice e)) (hi : (P.info? e).map (fun i => (i.zero, i.size, i.bytes)) = some (some (.slice none 0 0), 1, 24))
    {v : Value} {L : List (List Int)} {G : List Nat} (hown : Og w e v L G)
    (k kc : Nat) (A : Option Addr) (l c : Nat) (b : List Int) (hcell : w.cell? ⟨k, 0, none⟩ = some (.slice A l c)) (hr : Rd w A l b) (hlc : l ≤ c) (hc : c ≤ 9223372036854775807) (hin : In A l G) (hoff : Off A l v.ownBlock.toList) (hsmall : L.length ≤ 4294967296) :
    ∃ v' w', (Builtin.append_ #[t, t] ty #[v, .slice (some ⟨k, 0, none⟩) 1 kc]).run P w = .ok v' w' ∧ Og w' e v' (L ++ [b]) (v'.ownBlock.toList ++ G) ∧ Fp v.ownBlock.toList v'.ownBlock.toList w w' := by
  obtain ⟨iu, hi, hz0, hz1, hz2⟩ := info_parts hi
  obtain ⟨cs, hown, hv, hcs⟩ := hown
  have hcl : cs.length = L.length := by have := hown.1; omega
  obtain ⟨v', w', hrun, a1, a2, -, a3⟩ := run_append_own_at (P := P) w 0 t ty e iu (.slice none 0 0) 1 24 ht hi hz0 hz1 hz2 rfl (by omega) v L.length cs hown ⟨k, 0, none⟩ 1 kc [.slice A l c] rfl (fun j u hj => by
    have hj0 : j = 0 := by have := (List.getElem?_eq_some_iff.1 hj).1; simpa using this
    subst hj0
    rw [List.getElem?_cons_zero, Option.some.injEq] at hj
    rw [← hj]; exact hcell) (fun u hu => by rw [List.mem_singleton] at hu; subst hu; rfl) (by unfold maxLen; omega) (by omega) (Nat.zero_le _)
  have fp : Fp v.ownBlock.toList v'.ownBlock.toList w w' := ⟨Bar.grownRow a2, fun g hg => by
      rcases a3 with a3 | a3
      · rw [a3] at hg; exact .inl hg
      · rw [a3] at hg
        simp only [Option.toList_some, List.mem_singleton] at hg
        exact .inr (by omega)⟩
  refine ⟨v', w', hrun, ⟨cs ++ [.slice A l c], by rw [List.length_append]; exact a1, fun g hg => List.mem_append.2 (.inl hg), fun i hi => ?_⟩, fp⟩
  rw [List.length_append, List.length_singleton] at hi
  by_cases hiL : i < L.length
  · obtain ⟨a0, l0, c0, k1, k2, k3, k4, k5, k6⟩ := hcs i hiL
    have e1 : (L ++ [b]).getD i [] = L.getD i [] := by simp [List.getD_eq_getElem?_getD, List.getElem?_append_left hiL]
    rw [e1]
    exact ⟨a0, l0, c0, by rw [List.getElem?_append_left (by omega)]; exact k1, k2, k3, k4.far fp.1 k6, k5.mono (fun g hg => List.mem_append.2 (.inr hg)), k6.step k4 fp⟩
  · obtain rfl : i = L.length := by omega
    have e1 : (L ++ [b]).getD L.length [] = b := by simp [List.getD_eq_getElem?_getD]
    rw [e1]
    exact ⟨A, l, c, by rw [← hcl]; simp, hlc, hc, hr.far fp.1 hoff, hin.mono (fun g hg => List.mem_append.2 (.inr hg)), hoff.step hr fp⟩
/-- at a step of a region: an append whose run is known -/
theorem step_append_run {P : Program} {w : World} {ops : Array Oper} {o : Oper} {a : Act} {K : Act → World → Prop} {Q : Exit → Act → World → Prop} {E : Prop} (hgd : o.guard = none) (s x : Operand) (t tn : TypeId)
    (ho : o.op = .call { callee := .builtin .append, args := #[s, x], argTypes := #[t, tn] }) (vs vx : Value) (hs : a.eval s = vs) (hx : a.eval x = vx)
    (v' : Value) (w' : World) (hr : (Builtin.append_ #[t, tn] o.type #[vs, vx]).run P w = .ok v' w') (h : K (a.put o.dst v') w') :
    if Region.wanted o (yielded ops a.tmps) = true then Oper.wp P o a w K Q else E := by
  have hw : Region.wanted o (yielded ops a.tmps) = true := by simp [Region.wanted, hgd]
  rw [if_pos hw]
  exact Lib.wp_append_run w s x t tn ho vs vx hs hx v' w' hr h
end Go.Proofs.YtjlhnhkjgcbnnaaGreat.Sha

/-
  The landed journal in memory.
-/




namespace Go.Proofs.YtjlhnhkjgcbnnaaGreat.Journal
open Go.RowKit Go.Proofs.YtjlhnhkjgcbnnaaGreat.Sha Go.Proofs.YtjlhnhkjgcbnnaaGreat.Disk Go.Proofs.YtjlhnhkjgcbnnaaGreat.Frame

/-- a journal's cells -/
def jc (t d : Nat) (fr gen : Int) (has : Bool) (A : Option Addr) (m c : Nat) (vr : Value) (room : Int) (dead : Bool) : Array Value :=
  #[.pointer (some ⟨t, 0, none⟩), .pointer (some ⟨d, 0, none⟩), .int .i64 fr, .int .i64 gen, .bool has, .slice A m c, vr, .int .i64 room, .bool dead]
/-- what holds of a journal's numbers -/
structure COk (n : Nat) (v : JV) : Prop where
  half : v.half = 0 ∨ v.half = 1
  gen : 0 ≤ v.gen ∧ v.gen ≤ 4294967295
  seq : v.seq = (v.recs.length : Int) + 1
  pos : v.pos ≤ n / 2
  recs : v.recs.length ≤ v.pos
  pict : v.pict.length ≤ 60000
  bods : ∀ b ∈ v.recs, b.length ≤ 60000
theorem COk.dead {n : Nat} {v : JV} (h : COk n v) : COk n (deadJ v) := ⟨h.half, h.gen, h.seq, h.pos, h.recs, h.pict, h.bods⟩
/-- the landed journal at block j, over a table and a disk of n sectors; all else of it lies in the blocks K -/
def Cj (w : World) (G : List Nat) (j t d n : Nat) (v : JV) : Prop :=
  ∃ A m c vr rm K, Blk w j 87 (jc t d ((v.half * (n / 2) : Nat) : Int) v.gen v.has A m c vr ((rm : Nat) : Int) v.dead) ∧ m ≤ c ∧ c ≤ 9223372036854775807 ∧ Rd w A m v.pict ∧ (In A m K ∧ Off A m vr.ownBlock.toList) ∧ Og w 38 vr v.recs K ∧
    (∀ k ∈ K, k < w.heap.size) ∧ j ∉ K ∧ G = j :: K ∧ COk n v ∧ rm ≤ n / 2 ∧ (v.dead = false → rm + v.pos = n / 2)
theorem Cj.lts {w : World} {G : List Nat} {j t d n : Nat} {v : JV} (h : Cj w G j t d n v) : ∀ k ∈ G, k < w.heap.size := by
  obtain ⟨A, m, c, vr, rm, K, h1, -, -, -, -, -, h7, -, rfl, -⟩ := h
  intro k hk
  rcases List.mem_cons.1 hk with rfl | hk
  · exact h1.lt
  · exact h7 k hk
theorem Cj.keep {w w' : World} {G K : List Nat} {j t d n : Nat} {v : JV} (h : Cj w G j t d n v) (b : Bar K w w') (q : Disj G K) : Cj w' G j t d n v := by
  obtain ⟨A, m, c, vr, rm, K', h1, h2, h3, h4, h5, h6, h7, h8, rfl, h9⟩ := h
  have jk : Disj K' K := fun k hk => q k (by simp [hk])
  exact ⟨A, m, c, vr, rm, K', h1.bar b (q j (by simp)), h2, h3, h4.far b (h5.1.off jk), h5, h6.keep b jk, fun k hk => Nat.lt_of_lt_of_le (h7 k hk) b.size, h8, rfl, h9⟩
theorem Cj.ok {w : World} {G : List Nat} {j t d n : Nat} {v : JV} (h : Cj w G j t d n v) : COk n v := by
  obtain ⟨A, m, c, vr, rm, K', -, -, -, -, -, -, -, -, -, h, -⟩ := h
  exact h
/-- lay, as a value: how many sectors are left, what is told; the disk; was it told ErrDown? -/
def layC (s : DS) (dead : Bool) (f : FV) (home rm : Nat) : (Int × Int) × DS × Bool :=
  if dead = true ∨ s.down = true then ((0, 13), s, true)
  else if (putF f).1 = 1 then ((0, 12), s, false)
  else if (putF f).1 ≠ 0 then ((0, (putF f).1), s, false)
  else if rm < (putF f).2.length / 64 then ((0, 12), s, false)
  else if (layJ s home (putF f).2).1 = 0 then (((rm : Int) - ((putF f).2.length / 64 : Nat), 0), (layJ s home (putF f).2).2, false)
  else ((0, (layJ s home (putF f).2).1), (layJ s home (putF f).2).2, true)
def CLayPost (w : World) (F : List Nat) (t d j n : Nat) (cs : Bool → Array Value) (r : (Int × Int) × DS × Bool) (e : Ending) (w' : World) : Prop :=
  e = .returned (.tuple #[.int .i64 r.1.1, .int .i64 r.1.2]) ∧ ∃ F', Tab w' t ∧ Dk w' F' d n r.2.1 ∧ Blk w' j 87 (cs r.2.2) ∧ Fp (t :: j :: F) (t :: j :: F') w w' ∧ t ∉ F' ∧ j ∉ F'
end Go.Proofs.YtjlhnhkjgcbnnaaGreat.Journal

/-
  slices.Chunk at bytes, 64 a piece: the function that it answers, and what it hands to a loop's body.
-/












namespace Go.Proofs.YtjlhnhkjgcbnnaaGreat.Sha
open Go.RowKit
attribute [local go_sem] Oper.semAt_some

/-- two cells hold what they held -/
def Two (x y : Nat) (w w' : World) : Prop := (∀ v, w.cell? ⟨x, 0, none⟩ = some v → w'.cell? ⟨x, 0, none⟩ = some v) ∧ ∀ v, w.cell? ⟨y, 0, none⟩ = some v → w'.cell? ⟨y, 0, none⟩ = some v
theorem two_t {x y : Nat} {A B C : World} (h : Two x y A B) (k : Two x y B C) : Two x y A C := ⟨fun v hv => k.1 v (h.1 v hv), fun v hv => k.2 v (h.2 v hv)⟩
theorem two_b {x y : Nat} (W : World) (l : Nat) (o o' : Obj) (h : W.heap[l]? = some o) (ho : o.isCells = false) : Two x y W (W.putObj l o') :=
  ⟨fun _ hv => cell_kept hv (grownBy_putObj' W l o') (fun r e => by cases e; exact ⟨_, h, ho⟩), fun _ hv => cell_kept hv (grownBy_putObj' W l o') (fun r e => by cases e; exact ⟨_, h, ho⟩)⟩
/-- the first m pieces of k -/
def ups (k : Nat) (h : 0 < k) (m : Nat) : List (Fin k) := (List.range m).map fun j => ⟨j % k, Nat.mod_lt _ h⟩
theorem ups_succ {k : Nat} (h : 0 < k) (m : Nat) : ups k h (m + 1) = ups k h m ++ [⟨m % k, Nat.mod_lt _ h⟩] := by simp [ups, List.range_succ]
theorem ups_len {k : Nat} (h : 0 < k) (m : Nat) : (ups k h m).length = m := by simp [ups]
theorem ups_val {k : Nat} (h : 0 < k) (m : Nat) (hm : m ≤ k) : (ups k h m).map (·.1) = List.range m := by
  apply List.ext_getElem
  · simp [ups]
  · intro i h1 h2
    have : i < m := by simpa [ups] using h1
    simp [ups, Nat.mod_eq_of_lt (show i < k by omega)]

theorem slice_lhm_at (g o n c l h m : Nat) (h1 : l ≤ h) (h2 : h ≤ m) (h3 : m ≤ c) (hl : l < m) (li hi mi : Int) (e1 : li = l) (e2 : hi = h) (e3 : mi = m) (w' : World) :
    (Instr.slice 38 (.slice (some ⟨g, o, none⟩) n c) (some (.int .i64 li)) (some (.int .i64 hi)) (some (.int .i64 mi))).run Tryz.prog w' = .ok (.slice (some ⟨g, o + l, none⟩) (h - l) (m - l)) w' := by
  subst e1 e2 e3
  rw [run_slice_lhm w' 38 (some ⟨g, o, none⟩) n c und_u8 .i64 .i64 .i64 l h m (by omega) (by omega) (by omega) (by omega), size_u8]
  have hcl : ¬ m = l := by omega
  have ea : (⟨g, o, none⟩ : Addr).add l = ⟨g, o + l, none⟩ := by cases l <;> simp [Addr.add]
  simp [Result.andThen, sliced, hcl, ea]

set_option maxRecDepth 100000 in
set_option maxHeartbeats 1000000 in
theorem chunk_any (A : Option Addr) (n c : Nat) (w : World) : Calls Tryz.prog 102 #[.slice A n c, .int .i64 64] w fun e w' =>
    e = .returned (.func (.func 124) #[] #[.pointer (some ⟨w.heap.size, 0, none⟩), .pointer (some ⟨w.heap.size + 1, 0, none⟩)]) ∧ w' = (w.alloc (.cells #[.slice A n c] 38)).alloc (.cells #[.int .i64 64] 3) := by
  go_enter Tryz.func102, Tryz.ntmps102
  go_wp2
  go_ret
  exact ⟨rfl, rfl⟩

set_option maxRecDepth 100000 in
set_option maxHeartbeats 2000000 in
theorem chunk1_in (n : Nat) (hn : 1 ≤ n) (l xs xn g o k c : Nat) (hk0 : 0 < k) (hk : 64 * k ≤ c) (hk9 : k ≤ 100000) (J Jx : List (Fin k) → World → Prop) (W : World) (hJa : AbidesFrom W.heap.size J)
    (hY : ∀ pre x W1, J pre W1 → pre.length < k → YieldAt Fence.wide (n - 1) Tryz.prog l #[.slice (some ⟨g, o + 64 * x.1, none⟩) 64 64] W1 fun e W' =>
      (e = .returned (.bool true) ∧ J (pre ++ [x]) W' ∧ Two xs xn W1 W') ∨ (e = .returned (.bool false) ∧ Jx (pre ++ [x]) W'))
    (hs : W.cell? ⟨xs, 0, none⟩ = some (.slice (some ⟨g, o, none⟩) (64 * k) c)) (hm : W.cell? ⟨xn, 0, none⟩ = some (.int .i64 64)) (h0 : J [] W) :
    CallsIn Fence.wide n Tryz.prog 124 #[.func (.yield l) #[] #[], .pointer (some ⟨xs, 0, none⟩), .pointer (some ⟨xn, 0, none⟩)] W fun e W' => (∃ v, e = .returned v) ∧
      ((∃ ys : List (Fin k), ys = ups k hk0 k ∧ J ys W') ∨ (∃ pre : List (Fin k), (∃ m, m ≤ k ∧ pre = ups k hk0 m) ∧ Jx pre W')) := by
  refine callsIn_of_wp Tryz.func124 rfl trivial ?_ rfl
  simp only [Tryz.ntmps124, List.size_toArray, List.length_cons, List.length_nil, Nat.reduceAdd, Nat.reduceSub, Array.replicate_succ, Array.replicate_zero, List.push_toArray, List.append_toArray, List.nil_append, List.cons_append]
  gi_wp2
  gi_loopw [4, 5] (fun i _e wr => ∃ m : Nat, m ≤ k ∧ i = .int .i64 (64 * (m : Int)) ∧ J (ups k hk0 m) wr ∧ wr.cell? ⟨xs, 0, none⟩ = some (.slice (some ⟨g, o, none⟩) (64 * k) c) ∧ wr.cell? ⟨xn, 0, none⟩ = some (.int .i64 64))
    (fun i _ _ => 64 * k - (Go.RowKit.intOf i).toNat)
  case atStart => exact ⟨0, Nat.zero_le _, rfl, h0, hs, hm⟩
  case round =>
    obtain ⟨m, hmk, rfl, hJ, cs, cn⟩ := hrel
    by_cases hlt : m < k
    · have hJ2 : J (ups k hk0 m) wr.drew := hJa _ _ _ none hJ ⟨rfl, rfl, rfl, Nat.le_refl _, fun _ _ _ => rfl⟩ (by simp)
      obtain ⟨fn, tmps, assign, body, hy, hR⟩ := hY _ ⟨m % k, Nat.mod_lt _ hk0⟩ wr.drew hJ2 (by rw [ups_len]; exact hlt)
      dsimp only at hy
      rw [Nat.mod_eq_of_lt hlt] at hy
      have s1 := fun w' => slice_l_at g o (64 * k) c (64 * m) (by omega) (by omega) (64 * (m : Int)) (by omega) w'
      have s2 := fun w' => slice_lhm_at g o (64 * k) c (64 * m) (64 * m + 64) (64 * m + 64) (by omega) (by omega) (by omega) (by omega) (64 * (m : Int)) (64 * (m : Int) + 64) (64 * (m : Int) + 64) (by omega) (by omega) (by omega) w'
      rw [show 64 * m + 64 - 64 * m = 64 by omega] at s2
      have hmx : Tryz.prog.follows .mixedOrders = true := by kernel_rfl
      have cs2 : wr.drew.cell? ⟨xs, 0, none⟩ = some (.slice (some ⟨g, o, none⟩) (64 * k) c) := cs
      have cn2 : wr.drew.cell? ⟨xn, 0, none⟩ = some (.int .i64 64) := cn
      have e1 := ups_succ hk0 m
      gi_wp2
      gi_region_o
      gi_wp2
      refine hR.mono ?_
      rintro e W3 (⟨rfl, hJ3, hk3⟩ | ⟨rfl, hJx3⟩)
      · have cs3 := hk3.1 _ cs2
        have cn3 := hk3.2 _ cn2
        gi_wp2
        go_roundw
        case rel => exact ⟨m + 1, by omega, by go_num, by rw [e1]; exact hJ3, cs3, cn3⟩
        case measure => simp [Go.RowKit.intOf]; omega
      · gi_wp2
        refine bodyPost_ret (results_none rfl _ _ _) rfl ?_
        exact ⟨⟨_, rfl⟩, .inr ⟨_, ⟨m + 1, by omega, e1.symm⟩, hJx3⟩⟩
    · obtain rfl : m = k := by omega
      gi_wp2
      go_end0
      exact ⟨⟨_, rfl⟩, .inl ⟨_, rfl, hJ⟩⟩
end Go.Proofs.YtjlhnhkjgcbnnaaGreat.Sha

/-
  Package disk: whether it is down, the fuse, is there such a sector?
-/

namespace Go.Proofs.YtjlhnhkjgcbnnaaGreat.Disk
open Go.RowKit Go.Proofs.YtjlhnhkjgcbnnaaGreat.Sha

theorem bload_any (a : Addr) (d : Bool) (w : World) (hc : w.cell? a = some (.int .u32 (u01 d))) :
    Calls Tryz.prog 51 #[.pointer (some a)] w fun e w' => e = .returned (.bool d) ∧ w = w' := by
  have hl := run_call_load (P := Tryz.prog) Tryz.func68 (by kernel_rfl) (by kernel_rfl) (by kernel_rfl) .u32 (by kernel_rfl) hc
  have hd := u01_ne d
  generalize u01 d = z at *
  go_enter Tryz.func51, Tryz.ntmps51
  go_wp2
  go_ret
  exact ⟨rfl, rfl⟩
theorem b32_any (b : Bool) (w : World) : Calls Tryz.prog 67 #[.bool b] w fun e w' => e = .returned (.int .u32 (u01 b)) ∧ w = w' := by
  cases b with
  | true =>
    go_enter Tryz.func67, Tryz.ntmps67
    go_wp2
    go_ret
    exact ⟨rfl, rfl⟩
  | false =>
    go_enter Tryz.func67, Tryz.ntmps67
    go_wp2
    go_ret
    exact ⟨rfl, rfl⟩
set_option maxRecDepth 100000 in
set_option maxHeartbeats 400000 in
theorem bstore_any (a : Addr) (b : Bool) (x : Value) (w : World) (hc : w.cell? a = some x) (hz : w.frozen? a = false) :
    Calls Tryz.prog 46 #[.pointer (some a), .bool b] w fun e w' => e = .returned (.tuple #[]) ∧ w' = w.drew.setCell a (.int .u32 (u01 b)) := by
  have hc' : w.drew.cell? a = some x := by go_simp
  have hz' : w.drew.frozen? a = false := by go_simp
  have hst := run_call_store (P := Tryz.prog) Tryz.func66 (by kernel_rfl) (by kernel_rfl) (by kernel_rfl) (by kernel_rfl) (k := .u32) (y := u01 b) hc' hz'
  cases b <;>
  · simp only [u01] at hst ⊢
    go_enter Tryz.func46, Tryz.ntmps46
    go_wp2
    go_region_calls
    all_goals (go_end0; exact ⟨rfl, rfl⟩)
theorem cdown_any {w : World} {F : List Nat} {d n : Nat} {s : DS} (h : Dk w F d n s) : Calls Tryz.prog 23 #[.pointer (some ⟨d, 0, none⟩)] w fun e w' => e = .returned (.bool s.down) ∧ w = w' := by
  obtain ⟨h0, gw, cw, gm, f, h1, h2, h3, h4, rfl⟩ := h
  have c3 := (h1.cell 3).trans (dk_3 _ _ _ _)
  have c := Kept.mk (bload_any ⟨d, 3, none⟩ s.down w c3)
  clear h0 h1 h2 h3 h4
  go_enter Tryz.func23, Tryz.ntmps23
  go_wp2_with fail
  refine c.out.mono ?_
  rintro e w' ⟨rfl, rfl⟩
  go_wp2
  go_ret
  exact ⟨rfl, rfl⟩
theorem chas_any {w : World} {F : List Nat} {d n : Nat} {s : DS} (i : Int) (h : Dk w F d n s) : Calls Tryz.prog 47 #[.pointer (some ⟨d, 0, none⟩), .int .i64 i] w fun e w' => e = .returned (.bool (hasB n i)) ∧ w = w' := by
  obtain ⟨h0, gw, cw, gm, f, h1, h2, h3, h4, rfl⟩ := h
  have c0 := (h1.cell 0).trans (dk_0 _ _ _ _)
  clear h0 h1 h2 h3 h4
  by_cases hi0 : 0 ≤ i
  · by_cases hin : i < n
    · rw [show hasB n i = true by simp [hasB, hi0, hin]]
      go_enter Tryz.func47, Tryz.ntmps47
      go_wp2
      go_ret
      exact ⟨rfl, rfl⟩
    · rw [show hasB n i = false by simp [hasB, hin]]
      go_enter Tryz.func47, Tryz.ntmps47
      go_wp2
      go_ret
      exact ⟨rfl, rfl⟩
  · rw [show hasB n i = false by simp [hasB, hi0]]
    go_enter Tryz.func47, Tryz.ntmps47
    go_wp2
    go_ret
    exact ⟨rfl, rfl⟩
set_option maxRecDepth 100000 in
set_option maxHeartbeats 400000 in
theorem cburn_any {w : World} {F : List Nat} {d n : Nat} {s : DS} (h : Dk w F d n s) : Calls Tryz.prog 48 #[.pointer (some ⟨d, 0, none⟩)] w (BurnPost w F d n s) := by
  obtain ⟨h0, gw, cw, gm, f, h1, h2, h3, h4, rfl⟩ := h
  have hwf := wf_burn h0
  have hfu := h0.fuse
  have c2 := (h1.cell 2).trans (dk_2 _ _ _ _)
  have c3 := (h1.cell 3).trans (dk_3 _ _ _ _)
  have z2 := h1.frozen 2
  have KK := Kept.mk fun (w' : World) (f' : Int) (u : Int) (k1 : Blk w' d 83 #[.slice (some ⟨gw, 0, none⟩) n cw, .map (some gm), .int .i64 f', .int .u32 u]) (kb : Bar [d] w w') (hu : u01 (burnD s).2.down = u) (hf : (if f' < -1 then -1 else f') = (burnD s).2.fuse) =>
    Dk.turn (F := d :: gw :: gm :: []) rfl ⟨_, h1⟩ h2 h3 hwf (burn_now s) (burn_pend s) (burn_last s) (by rw [hu]; exact k1) hf kb
  have ST := Kept.mk (bstore_any ⟨d, 3, none⟩ true _ w c3 (h1.frozen 3))
  have H1 := Kept.mk h1
  clear h1 h2 h3 hwf h0 c3
  by_cases hf : s.fuse = 0
  · have hf0 : f = 0 := by rw [hf] at h4; split at h4 <;> omega
    have e1 : burnD s = (true, { s with down := true }) := by unfold burnD; rw [if_pos hf]
    unfold BurnPost
    rw [e1] at KK ⊢
    subst hf0
    clear hfu e1 h4
    go_enter Tryz.func48, Tryz.ntmps48
    go_wp2_with fail
    refine ST.out.mono ?_
    rintro e w' ⟨rfl, rfl⟩
    have K3 := Kept.mk (KK.out _ 0 1 (H1.out.drew.set_ 3 (.int .u32 1)) ((Bar.refl [d] w).drew.setCell (by simp) _) rfl (by rw [hf]; rfl))
    clear KK
    go_wp2
    go_ret
    exact ⟨rfl, K3.out⟩
  · have hfb : (f == 0) = false := by
      simp only [beq_eq_false_iff_ne, ne_eq]
      rintro rfl
      exact hf h4.symm
    by_cases hp : 0 < s.fuse
    · have hff : f = s.fuse := by split at h4 <;> omega
      have e1 : burnD s = (false, { s with fuse := s.fuse - 1 }) := by unfold burnD; rw [if_neg hf, if_pos hp]
      have hw : wrap64 (f - 1) = f - 1 := by unfold wrap64; omega
      unfold BurnPost
      rw [e1] at KK ⊢
      rw [← hff] at hp hfu KK ⊢
      clear e1 h4 hf ST
      have hfn : (if f - 1 < -1 then -1 else f - 1) = f - 1 := if_neg (by omega)
      have HN := Kept.mk hfn
      clear hfn hff hfu
      go_enter Tryz.func48, Tryz.ntmps48
      go_wp2
      go_ret
      exact ⟨rfl, KK.out _ (f - 1) _ (H1.out.set_ 2 (.int .i64 (f - 1))) ((Bar.refl [d] w).setCell (by simp) _) rfl HN.out⟩
    · have hff : ¬ 0 < f := by split at h4 <;> omega
      have e1 : burnD s = (false, s) := by unfold burnD; rw [if_neg hf, if_neg hp]
      have HN := Kept.mk h4
      unfold BurnPost
      rw [e1] at KK ⊢
      clear e1 h4 hf hp hfu ST
      go_enter Tryz.func48, Tryz.ntmps48
      go_wp2
      go_ret
      exact ⟨rfl, KK.out _ f _ H1.out (Bar.refl [d] w) rfl HN.out⟩
end Go.Proofs.YtjlhnhkjgcbnnaaGreat.Disk

/-
  Many cells at once, loaded or stored, by the run's own equation; a sector's number.
-/

namespace Go.Proofs.YtjlhnhkjgcbnnaaGreat.Disk
open Go.RowKit Go.Proofs.YtjlhnhkjgcbnnaaGreat.Sha

/-- many cells at once, loaded or stored, by the run's own equation -/
theorem wpList_loadAt {P : Program} {ops : Array Oper} {rest : List Oper} {o : Oper} {a : Act} {w : World} {Q : Exit → Act → World → Prop} (hgd : o.guard = none) (ty : TypeId) (x : Operand) (ho : o.op = .load ty x) (p v : Value) (hx : a.eval x = p)
    (hr : (Instr.loadAt ty p).run P w = .ok v w) (h : wpList P ops Q rest (a.put o.dst v) w) : wpList P ops Q (o :: rest) a w :=
  wpList_plain hgd fun _ hK => by
    unfold Oper.wp execOp
    simp only [ho, hx, Sem.run_bind, hr, Result.andThen_ok]
    exact hK _ _ h
theorem wpList_storeAt {P : Program} {ops : Array Oper} {rest : List Oper} {o : Oper} {a : Act} {w w' : World} {Q : Exit → Act → World → Prop} (hgd : o.guard = none) (ty : TypeId) (x y : Operand) (ho : o.op = .store ty x y) (p v : Value) (hx : a.eval x = p) (hy : a.eval y = v)
    (hr : (Instr.storeAt ty p v).run P w = .ok () w') (h : wpList P ops Q rest (a.put o.dst undef) w') : wpList P ops Q (o :: rest) a w :=
  wpList_plain hgd fun _ hK => by
    unfold Oper.wp execOp
    simp only [ho, hx, hy, Sem.run_bind, hr, Result.andThen_ok]
    exact hK _ _ h
theorem wpStill_loadAt {P : Program} {ops : Array Oper} {rest : List Oper} {o : Oper} {a : Act} {w : World} {Q : Act → Prop} (hgd : o.guard = none) (ty : TypeId) (x : Operand) (ho : o.op = .load ty x) (p v : Value) (hx : a.eval x = p)
    (hr : (Instr.loadAt ty p).run P w = .ok v w) (h : wpStill P ops w Q rest (a.put o.dst v)) : wpStill P ops w Q (o :: rest) a := by
  unfold wpStill
  rw [if_pos (by simp [Region.wanted, hgd])]
  unfold Oper.still execOp
  simp only [ho, hx, Sem.run_bind, hr, Result.andThen_ok]
  exact ⟨rfl, h⟩
theorem hasB_no {n : Nat} {s : DS} (h : WF n s) (i : Int) : hasB n i = !(decide (noSector s i)) := by
  have hn := h.now
  by_cases h1 : noSector s i
  · rw [decide_eq_true h1]
    unfold noSector at h1
    simp only [hasB, Bool.not_true, decide_eq_false_iff_not]
    omega
  · rw [decide_eq_false h1]
    unfold noSector at h1
    simp only [hasB, Bool.not_false, decide_eq_true_eq]
    omega
theorem idx_of {n : Nat} {s : DS} (h : WF n s) {i : Int} (h1 : ¬ noSector s i) : ∃ j : Nat, i = j ∧ j < n := by
  have hn := h.now
  unfold noSector at h1
  exact ⟨i.toNat, by omega, by omega⟩
end Go.Proofs.YtjlhnhkjgcbnnaaGreat.Disk

/-
  How many may be pending.
-/

namespace Go.Proofs.YtjlhnhkjgcbnnaaGreat.Disk
open Go.Proofs.YtjlhnhkjgcbnnaaGreat.Sha

theorem cpend_len {n : Nat} {s : DS} (h : WF n s) : s.pend.length ≤ n := by
  have h1 := h.rise
  have h2 := h.pend
  generalize s.pend = l at *
  clear h
  have : ∀ (l : List Nat) (a : Nat), l.Pairwise (· < ·) → (∀ i ∈ l, a ≤ i ∧ i < n) → l.length + a ≤ n ∨ l = [] := by
    intro l
    induction l with
    | nil => intro a _ _; exact .inr rfl
    | cons x l ih =>
      intro a hp hb
      rw [List.pairwise_cons] at hp
      have hx := hb x (by simp)
      rcases ih (x + 1) hp.2 (fun i hi => ⟨hp.1 i hi, (hb i (by simp [hi])).2⟩) with h3 | h3
      · left; simp; omega
      · subst h3; left; simp; omega
  rcases this l 0 h1 (fun i hi => ⟨Nat.zero_le _, h2 i hi⟩) with h3 | h3
  · omega
  · subst h3; simp
end Go.Proofs.YtjlhnhkjgcbnnaaGreat.Disk

/-
  Package disk: Write.
-/





namespace Go.Proofs.YtjlhnhkjgcbnnaaGreat.Disk
open Go.RowKit Go.Proofs.YtjlhnhkjgcbnnaaGreat.Sha

theorem ins_here {i : Nat} : ∀ {p : List Nat}, p.Pairwise (· < ·) → i ∈ p → ins i p = p
  | [], _, h => by simp at h
  | k :: l, hr, h => by
    rw [List.pairwise_cons] at hr
    unfold ins
    by_cases hk : k < i
    · rw [if_pos hk, ins_here hr.2 ((List.mem_cons.1 h).resolve_left (by omega))]
    · rw [if_neg hk]
      by_cases he : k = i
      · rw [if_pos he]
      · rcases List.mem_cons.1 h with h1 | h1
        · exact absurd h1.symm he
        · have := hr.1 i h1; omega
/-- sector i is pending, too; it is not written yet -/
def pendD (s : DS) (i : Nat) : DS := { s with pend := ins i s.pend }
theorem wf_pend {n : Nat} {s : DS} (h : WF n s) (i : Nat) (hi : i < n) : WF n (pendD s i) :=
  ⟨h.n1, h.n2, h.now, h.last, h.secs, fun j hj => by
    rcases (ins_mem i j s.pend).1 hj with h1 | h1
    · omega
    · exact h.pend j h1, ins_rise i _ h.rise, fun j hj hn => h.same j hj (fun hm => hn ((ins_mem i j s.pend).2 (.inr hm))), h.fuse⟩
/-- the row's sector is written -/
theorem Dk.put {w w' : World} {F : List Nat} {d n : Nat} {s : DS} {gw cw gm : Nat} {f : Int} {j : Nat} {xs : List Int} (hF : F = d :: gw :: gm :: []) (h1 : Blk w d 83 #[.slice (some ⟨gw, 0, none⟩) n cw, .map (some gm), .int .i64 f, .int .u32 (u01 s.down)]) (h3 : Mp w gm (ins j s.pend) s.last) (h2 : Sx w gw s.now)
    (hw : WF n (putD s j xs)) (k : Sx w' gw (s.now.set j xs)) (hf : (if f < -1 then -1 else f) = s.fuse) (b : Bar [gw] w w') : Dk w' F d n (putD s j xs) ∧ Fp F F w w' := by
  subst hF
  have n1 : gw ≠ d := by obtain ⟨cs', k', -⟩ := h2; exact blk_ne k' h1 (by decide)
  have n2 : gm ≠ gw := by obtain ⟨cs', k', -⟩ := h2; exact h3.ne k'
  exact ⟨⟨hw, gw, cw, gm, f, h1.bar b (by simpa using n1.symm), k, h3.bar b (by simpa using n2), hf, rfl⟩, b.mono (by simp), fun k hk => .inl hk⟩
/-- one more is pending -/
theorem Dk.more {w w' : World} {F : List Nat} {d n : Nat} {s : DS} {gw cw gm : Nat} {f : Int} {j : Nat} (hF : F = d :: gw :: gm :: []) (h1 : Blk w d 83 #[.slice (some ⟨gw, 0, none⟩) n cw, .map (some gm), .int .i64 f, .int .u32 (u01 s.down)]) (h2 : Sx w gw s.now) (h3 : Mp w gm s.pend s.last)
    (hw : WF n (pendD s j)) (k : Mp w' gm (ins j s.pend) s.last) (hf : (if f < -1 then -1 else f) = s.fuse) (b : Bar [gm] w w') : Dk w' F d n (pendD s j) ∧ Fp F F w w' := by
  subst hF
  have n1 : gm ≠ d := h3.ne h1
  have n2 : gm ≠ gw := by obtain ⟨cs', k', -⟩ := h2; exact h3.ne k'
  exact ⟨⟨hw, gw, cw, gm, f, h1.bar b (by simpa using n1.symm), h2.bar b (by simpa using n2.symm), k, hf, rfl⟩, b.mono (by simp), fun k hk => .inl hk⟩
theorem Dk.drew {w : World} {F : List Nat} {d n : Nat} {s : DS} (h : Dk w F d n s) : Dk w.drew F d n s := h.keep (G := []) (Bar.refl [] w).drew (fun _ _ => by simp)
theorem rd_load {w : World} {A : Option Addr} {xs : List Int} (r : Rd w A 64 xs) : ∃ b o, A = some ⟨b, o, none⟩ ∧ (Instr.loadAt 107 (.pointer (some ⟨b, o, none⟩))).run Tryz.prog w = .ok (.agg (arr .u8 xs)) w := by
  obtain ⟨h1, -, h0 | ⟨b, o, rfl, hc⟩⟩ := r
  · omega
  · refine ⟨b, o, rfl, run_loadAt_mid w b o 107 (ints .u8 xs) _ (fun j v hj => ?_) Tryz.underlying107 rfl (by rw [info_sec, ints_len, h1])⟩
    have hjl : j < xs.length := by have := (List.getElem?_eq_some_iff.1 hj).1; rwa [ints_len] at this
    rw [Sha.ints_at _ _ _ hjl] at hj
    rw [← hj]
    exact hc j (by omega)
/-- what Write leaves behind, said more sharply: the disk's blocks are the same -/
def SamePost (D : World → List Nat → DS → Prop) (w : World) (F : List Nat) (r : Int × DS) (e : Ending) (w' : World) : Prop := e = .returned (.int .i64 r.1) ∧ D w' F r.2 ∧ Bar F w w'
set_option maxRecDepth 100000 in
set_option maxHeartbeats 2000000 in
theorem cwrite_same {w : World} {F : List Nat} {d n : Nat} {s : DS} (i : Int) {A : Option Addr} {l c : Nat} {xs : List Int} (h : Dk w F d n s) (r : Rd w A l xs) (hO : Off A l F) :
    Calls Tryz.prog 20 #[.pointer (some ⟨d, 0, none⟩), .int .i64 i, .slice A l c] w (SamePost (fun w' F' s' => Dk w' F' d n s') w F (writeD s i xs)) := by
  have C1 := Kept.mk (cdown_any h)
  have C2 := Kept.mk (chas_any i h)
  have C3 := Kept.mk (cburn_any h)
  have D := Kept.mk h
  have hwf := Kept.mk h.1
  have R := Kept.mk r
  have OF := Kept.mk hO
  have hxl := r.1
  have SAME : Kept (∀ e : Int, SamePost (fun w' F' s' => Dk w' F' d n s') w F (e, s) (.returned (.int .i64 e)) w) := ⟨fun e => ⟨rfl, h, Bar.refl _ _⟩⟩
  clear h r hO
  cases hd : s.down with
  | true =>
    rw [hd] at C1
    have e1 : writeD s i xs = (13, s) := by unfold writeD; rw [if_pos hd]
    rw [e1]
    clear C2 C3 e1 hd
    go_enter Tryz.func20, Tryz.ntmps20
    go_wp2_with fail
    refine C1.out.mono ?_
    rintro e w' ⟨rfl, rfl⟩
    go_wp2
    go_ret
    exact SAME.out 13
  | false =>
    rw [hd] at C1
    rw [hasB_no hwf.out] at C2
    by_cases hs : noSector s i
    · have e1 : writeD s i xs = (1, s) := by unfold writeD; rw [if_neg (by rw [hd]; decide), if_pos hs]
      rw [e1]
      rw [decide_eq_true hs] at C2
      clear C3 e1 hd hs
      go_enter Tryz.func20, Tryz.ntmps20
      go_wp2_with fail
      refine C1.out.mono ?_
      rintro e w' ⟨rfl, rfl⟩
      go_wp2_with fail
      refine C2.out.mono ?_
      rintro e w' ⟨rfl, rfl⟩
      go_wp2
      go_ret
      exact SAME.out 1
    · rw [decide_eq_false hs] at C2
      by_cases h6 : l = 64
      · subst h6
        by_cases hb : (burnD s).1 = true
        · have e1 : writeD s i xs = (13, (burnD s).2) := by unfold writeD; rw [if_neg (by rw [hd]; decide), if_neg hs, if_neg (by omega), if_pos hb]
          rw [e1]
          unfold BurnPost at C3
          rw [hb] at C3
          clear e1 hb hd hs
          go_enter Tryz.func20, Tryz.ntmps20
          go_wp2_with fail
          refine C1.out.mono ?_
          rintro e w' ⟨rfl, rfl⟩
          go_wp2_with fail
          refine C2.out.mono ?_
          rintro e w' ⟨rfl, rfl⟩
          go_wp2_with fail
          refine C3.out.mono ?_
          rintro e w1 ⟨rfl, dk, fp⟩
          have RR := Kept.mk (show SamePost (fun w' F' s' => Dk w' F' d n s') w F (13, (burnD s).2) (.returned (.int .i64 13)) w1 from ⟨rfl, dk, fp.1⟩)
          clear dk fp
          go_wp2
          go_ret
          exact RR.out
        · have hb' : (burnD s).1 = false := by simpa using hb
          have e1 : writeD s i xs = (0, putD (burnD s).2 i.toNat xs) := by unfold writeD; rw [if_neg (by rw [hd]; decide), if_neg hs, if_neg (by omega), if_neg hb]
          rw [e1]
          unfold BurnPost at C3
          rw [hb'] at C3
          obtain ⟨j, rfl, hj⟩ := idx_of hwf.out hs
          have hj' : (j : Int) < n := by omega
          have hn2 := hwf.out.n2
          rw [Int.toNat_natCast]
          clear e1 hb hb' hd hs hwf SAME
          generalize (burnD s).2 = t at *
          go_enter Tryz.func20, Tryz.ntmps20
          go_wp2_with fail
          refine C1.out.mono ?_
          rintro e w' ⟨rfl, rfl⟩
          go_wp2_with fail
          refine C2.out.mono ?_
          rintro e w' ⟨rfl, rfl⟩
          go_wp2_with fail
          refine C3.out.mono ?_
          rintro e w1 ⟨rfl, dk, fp⟩
          clear C1 C2 C3 D
          replace OF := Kept.mk (OF.out.step R.out fp)
          replace R := Kept.mk (R.out.far fp.1 (by rcases OF.out with h | h; exact .inl h; exact .inr h))
          have FP := Kept.mk fp
          have WT := Kept.mk dk.1
          have D := Kept.mk dk
          clear dk fp
          obtain ⟨h0, gw, cw, gm, f, h1, h2, h3, h4, hF⟩ := D.out
          obtain ⟨ys, y64, hlook⟩ := h3.look j (by omega) (WT.out.secs j hj).2.1
          have Y64 := Kept.mk y64
          have c1 := (h1.cell 1).trans (dk_1 _ _ _ _)
          clear h0 h1 h2 h3 h4 hF y64
          by_cases hp : j ∈ t.pend
          · rw [decide_eq_true hp] at hlook
            go_upto_region 10 with ((with_reducible refine selS 107 (.tmp 7) (.tmp 28) ?_); refine wpList_store_row rfl 107 (.tmp 7) (.tmp 28) rfl w1.heap.size (arr .u8 ys) rfl rfl 107 _ (Blk.new _ _ _) (by rw [arr_size, Y64.out]; kernel_rfl) (by rw [arr_size, Y64.out]; rfl) (all_oneCell_toArray (ints_one _ _)) ?_; refine wp_gen (fun w' => Kept (Below w1.heap.size w1 w')) ⟨?_⟩ (fun w2 b2 => ?_))
            case refine_1 => exact below_setRow ((Below.refl _ _).alloc (Nat.le_refl _) _) (Nat.le_refl _) _
            have D2 := Kept.mk (D.out.keep (barOf b2.out []) (fun _ _ => by simp))
            have R2 := Kept.mk (R.out.below b2.out)
            have FP2 := Kept.mk (FP.out.trans (⟨barOf b2.out _, fun k hk => .inl hk⟩ : Fp F F w1 w2))
            clear b2 hlook c1 D R FP
            have D3 : Kept (Dk w2 F d n (pendD t j)) := ⟨by
              rw [show pendD t j = t by unfold pendD; rw [ins_here WT.out.rise hp]]; exact D2.out⟩
            have R3 := R2
            have FP3 := FP2
            clear D2 R2 FP2 hp
            go_wp2
            obtain ⟨-, gw, cw, gm, f, h1, h2, h3, h4, hF⟩ := D3.out.drew
            have c0 := (h1.cell 0).trans (dk_0 _ _ _ _)
            obtain ⟨w4, hst, k4, b4⟩ := h2.store j (by rw [show (pendD t j).now = t.now from rfl, WT.out.now]; exact hj) xs hxl
            have RES : Kept (SamePost (fun w' F' s' => Dk w' F' d n s') w F (0, putD t j xs) (.returned (.int .i64 0)) w4) := by
              obtain ⟨p, q⟩ := Dk.put (s := t) hF h1 h3 h2 (wf_put WT.out j xs hj ⟨hxl, R3.out.2.1⟩) k4 h4 b4
              exact ⟨rfl, p, ((FP3.out.trans ⟨(Bar.refl F _).drew, fun k hk => .inl hk⟩).trans q).1⟩
            obtain ⟨sb, so, rfl, hl⟩ := rd_load R3.out.drew
            have harr := run_arrayAt (P := Tryz.prog) w2.drew 107 5 64 (some ⟨sb, so, none⟩) 64 c Tryz.underlying107 (Nat.le_refl _)
            clear h1 h2 h3 h4 hF k4 b4
            refine wp_region_still_tail 9 (by kernel_rfl) (by kernel_rfl) ?_
            simp only [List.take_succ_cons, List.take_zero, List.drop_succ_cons, List.drop_zero]
            iterate 7 still_step
            refine wpStill_loadAt rfl 107 (.tmp 50) rfl _ _ rfl hl ?_
            still_step
            refine wpStill_nil ?_
            change wpList _ _ _ _ _ w2.drew
            go_wp2_with ((with_reducible refine selS 107 (.tmp 52) (.tmp 51) ?_); refine wpList_storeAt rfl 107 (.tmp 52) (.tmp 51) rfl _ _ rfl rfl hst ?_)
            go_ret
            exact RES.out
          · rw [decide_eq_false hp] at hlook
            go_upto_region 10 with ((with_reducible refine selS 107 (.tmp 7) (.tmp 28) ?_); refine wpList_store_row rfl 107 (.tmp 7) (.tmp 28) rfl w1.heap.size (arr .u8 ys) rfl rfl 107 _ (Blk.new _ _ _) (by rw [arr_size, Y64.out]; kernel_rfl) (by rw [arr_size, Y64.out]; rfl) (all_oneCell_toArray (ints_one _ _)) ?_; refine wp_gen (fun w' => Kept (Below w1.heap.size w1 w')) ⟨?_⟩ (fun w2 b2 => ?_))
            case refine_1 => exact below_setRow ((Below.refl _ _).alloc (Nat.le_refl _) _) (Nat.le_refl _) _
            have D2 := Kept.mk (D.out.keep (barOf b2.out []) (fun _ _ => by simp))
            have R2 := Kept.mk (R.out.below b2.out)
            have FP2 := Kept.mk (FP.out.trans (⟨barOf b2.out _, fun k hk => .inl hk⟩ : Fp F F w1 w2))
            clear b2 hlook c1 D R FP
            obtain ⟨-, gw, cw, gm, f, h1, h2, h3, h4, hF⟩ := D2.out.drew
            have c0 := (h1.cell 0).trans (dk_0 _ _ _ _)
            have c1 := (h1.cell 1).trans (dk_1 _ _ _ _)
            have hl := h2.load j (by rw [WT.out.now]; exact hj) (WT.out.secs j hj).1.1
            obtain ⟨w3, hput, k3, b3⟩ := h3.put j (by omega) hp WT.out.rise (by have := cpend_len WT.out; omega) (rowOf t.now j) (WT.out.same j hj hp).symm
            have M := Dk.more hF h1 h2 h3 (wf_pend WT.out j hj) k3 h4 b3
            have D3 := Kept.mk M.1
            have R3 := Kept.mk (R2.out.drew.far M.2.1 (by rcases OF.out with h | h; exact .inl h; exact .inr h))
            have FP3 := Kept.mk ((FP2.out.trans (⟨(Bar.refl F _).drew, fun k hk => .inl hk⟩ : Fp F F w2 w2.drew)).trans M.2)
            clear h1 h2 h3 h4 hF k3 b3 M D2 R2 FP2 hp
            go_wp2
            refine wp_region_still_tail 12 (by kernel_rfl) (by kernel_rfl) ?_
            simp only [List.take_succ_cons, List.take_zero, List.drop_succ_cons, List.drop_zero]
            iterate 11 still_step
            refine wpStill_loadAt rfl 107 (.tmp 42) rfl _ _ rfl hl ?_
            refine wpStill_nil ?_
            change wpList _ _ _ _ _ w2.drew
            clear hl
            go_wp2
            obtain ⟨-, gw, cw, gm, f, h1, h2, h3, h4, hF⟩ := D3.out.drew
            have c0 := (h1.cell 0).trans (dk_0 _ _ _ _)
            obtain ⟨w4, hst, k4, b4⟩ := h2.store j (by rw [show (pendD t j).now = t.now from rfl, WT.out.now]; exact hj) xs hxl
            have RES : Kept (SamePost (fun w' F' s' => Dk w' F' d n s') w F (0, putD t j xs) (.returned (.int .i64 0)) w4) := by
              obtain ⟨p, q⟩ := Dk.put (s := t) hF h1 h3 h2 (wf_put WT.out j xs hj ⟨hxl, R3.out.2.1⟩) k4 h4 b4
              exact ⟨rfl, p, ((FP3.out.trans ⟨(Bar.refl F _).drew, fun k hk => .inl hk⟩).trans q).1⟩
            obtain ⟨sb, so, rfl, hl⟩ := rd_load R3.out.drew
            have harr := run_arrayAt (P := Tryz.prog) w3.drew 107 5 64 (some ⟨sb, so, none⟩) 64 c Tryz.underlying107 (Nat.le_refl _)
            clear h1 h2 h3 h4 hF k4 b4
            refine wp_region_still_tail 9 (by kernel_rfl) (by kernel_rfl) ?_
            simp only [List.take_succ_cons, List.take_zero, List.drop_succ_cons, List.drop_zero]
            iterate 7 still_step
            refine wpStill_loadAt rfl 107 (.tmp 50) rfl _ _ rfl hl ?_
            still_step
            refine wpStill_nil ?_
            change wpList _ _ _ _ _ w3.drew
            go_wp2_with ((with_reducible refine selS 107 (.tmp 52) (.tmp 51) ?_); refine wpList_storeAt rfl 107 (.tmp 52) (.tmp 51) rfl _ _ rfl rfl hst ?_)
            go_ret
            exact RES.out
      · have e1 : writeD s i xs = (2, s) := by unfold writeD; rw [if_neg (by rw [hd]; decide), if_neg hs, if_pos (by omega)]
        rw [e1]
        have h6' : ¬ (l : Int) = 64 := by omega
        clear C3 e1 hd hs h6
        go_enter Tryz.func20, Tryz.ntmps20
        go_wp2_with fail
        refine C1.out.mono ?_
        rintro e w' ⟨rfl, rfl⟩
        go_wp2_with fail
        refine C2.out.mono ?_
        rintro e w' ⟨rfl, rfl⟩
        go_wp2
        go_ret
        exact SAME.out 2
theorem cwrite_any {w : World} {F : List Nat} {d n : Nat} {s : DS} (i : Int) {A : Option Addr} {l c : Nat} {xs : List Int} (h : Dk w F d n s) (r : Rd w A l xs) (hO : Off A l F) :
    Calls Tryz.prog 20 #[.pointer (some ⟨d, 0, none⟩), .int .i64 i, .slice A l c] w (StepPost (fun w' F' s' => Dk w' F' d n s') w F (writeD s i xs)) := by
  refine (cwrite_same i h r hO).mono ?_
  rintro e w' ⟨h1, h2, h3⟩
  exact ⟨h1, F, h2, h3, fun k hk => .inl hk⟩
end Go.Proofs.YtjlhnhkjgcbnnaaGreat.Disk

/-
  Package disk: nothing is pending any more.
-/

namespace Go.Proofs.YtjlhnhkjgcbnnaaGreat.Disk
open Go.RowKit Go.Proofs.YtjlhnhkjgcbnnaaGreat.Sha

/-- the map is empty now: what is pending lasts, or it fell back -/
theorem Dk.clear {w w' : World} {F : List Nat} {d n : Nat} {s t : DS} {gw cw gm : Nat} {f : Int} (hF : F = d :: gw :: gm :: []) (h1 : Blk w d 83 #[.slice (some ⟨gw, 0, none⟩) n cw, .map (some gm), .int .i64 f, .int .u32 (u01 t.down)]) (h2 : Sx w gw t.now) (h3 : Mp w gm s.pend s.last) (hw : WF n t)
    (e2 : t.pend = []) (k : Mp w' gm [] t.last) (hf : (if f < -1 then -1 else f) = t.fuse) (b : Bar [gm] w w') : Dk w' F d n t ∧ Fp F F w w' := by
  subst hF
  have n1 : gm ≠ d := h3.ne h1
  have n2 : gm ≠ gw := by obtain ⟨cs', k', -⟩ := h2; exact h3.ne k'
  refine ⟨⟨hw, gw, cw, gm, f, h1.bar b (by simpa using n1.symm), h2.bar b (by simpa using n2.symm), by rw [e2]; exact k, hf, rfl⟩, b.mono (by simp), fun k hk => .inl hk⟩
end Go.Proofs.YtjlhnhkjgcbnnaaGreat.Disk

/-
  Package disk: Sync.
-/


namespace Go.Proofs.YtjlhnhkjgcbnnaaGreat.Disk
open Go.RowKit Go.Proofs.YtjlhnhkjgcbnnaaGreat.Sha

set_option maxRecDepth 100000 in
set_option maxHeartbeats 1000000 in
theorem csync_any {w : World} {F : List Nat} {d n : Nat} {s : DS} (h : Dk w F d n s) : Calls Tryz.prog 103 #[.pointer (some ⟨d, 0, none⟩)] w (StepPost (fun w' F' s' => Dk w' F' d n s') w F (syncD s)) := by
  have C1 := Kept.mk (cdown_any h)
  have C2 := Kept.mk (cburn_any h)
  have D := Kept.mk h
  have hwf := Kept.mk h.1
  clear h
  cases hd : s.down with
  | true =>
    rw [hd] at C1
    have e1 : syncD s = (13, s) := by unfold syncD; rw [if_pos hd]
    rw [e1]
    clear C2 e1 hd
    go_enter Tryz.func103, Tryz.ntmps103
    go_wp2_with fail
    refine C1.out.mono ?_
    rintro e w' ⟨rfl, rfl⟩
    go_wp2
    go_ret
    exact ⟨rfl, F, D.out, Fp.refl _ _⟩
  | false =>
    rw [hd] at C1
    by_cases hb : (burnD s).1 = true
    · have e1 : syncD s = (13, (burnD s).2) := by unfold syncD; rw [if_neg (by rw [hd]; decide), if_pos hb]
      rw [e1]
      unfold BurnPost at C2
      rw [hb] at C2
      clear e1 hb hd
      go_enter Tryz.func103, Tryz.ntmps103
      go_wp2_with fail
      refine C1.out.mono ?_
      rintro e w' ⟨rfl, rfl⟩
      go_wp2_with fail
      refine C2.out.mono ?_
      rintro e w1 ⟨rfl, dk, fp⟩
      have R := Kept.mk (show StepPost (fun w' F' s' => Dk w' F' d n s') w F (13, (burnD s).2) (.returned (.int .i64 13)) w1 from ⟨rfl, F, dk, fp⟩)
      clear dk fp
      go_wp2
      go_ret
      exact R.out
    · have hb' : (burnD s).1 = false := by simpa using hb
      have e1 : syncD s = (0, keptD (burnD s).2) := by unfold syncD; rw [if_neg (by rw [hd]; decide), if_neg hb]
      rw [e1]
      unfold BurnPost at C2
      rw [hb'] at C2
      clear e1 hb hb' hd
      go_enter Tryz.func103, Tryz.ntmps103
      go_wp2_with fail
      refine C1.out.mono ?_
      rintro e w' ⟨rfl, rfl⟩
      go_wp2_with fail
      refine C2.out.mono ?_
      rintro e w1 ⟨rfl, dk, fp⟩
      obtain ⟨h0, gw, cw, gm, f, h1, h2, h3, h4, hF⟩ := dk
      obtain ⟨w2, hcl, k, b⟩ := h3.clear (burnD s).2.now
      have c1 := (h1.cell 1).trans (dk_1 _ _ _ _)
      have R : Kept (StepPost (fun w' F' s' => Dk w' F' d n s') w F (0, keptD (burnD s).2) (.returned (.int .i64 0)) w2) := by
        obtain ⟨p, q⟩ := Dk.clear (t := keptD (burnD s).2) hF h1 h2 h3 (wf_kept h0) rfl k h4 b
        exact ⟨rfl, F, p, fp.trans q⟩
      clear h0 h1 h2 h3 h4 hF k b fp
      go_wp2
      go_ret
      exact R.out
end Go.Proofs.YtjlhnhkjgcbnnaaGreat.Disk

/-
  The landed journal: write, many sectors and a Sync.
-/




namespace Go.Proofs.YtjlhnhkjgcbnnaaGreat.Journal
open Go.RowKit Go.Proofs.YtjlhnhkjgcbnnaaGreat.Sha Go.Proofs.YtjlhnhkjgcbnnaaGreat.Disk Go.Proofs.YtjlhnhkjgcbnnaaGreat.Frame
attribute [local go_sem] Oper.semAt_some

theorem bar_grown {w w' : World} {row : Option Nat} (h : w.grownBy w' row) : Bar row.toList w w' := ⟨h.os, h.tape, h.output, h.size, fun k hk hn => h.block k hk (fun he => hn (by simp [← he]))⟩
/-- between two rounds: the disk, the boxes of the disk's pointer, of the next sector's number, of what is told -/
def WI (w : World) (F : List Nat) (d n : Nat) (z res : Int) (s : DS) (W : World) : Prop :=
  Dk W F d n s ∧ Bar F w W ∧ W.cell? ⟨w.heap.size, 0, none⟩ = some (.pointer (some ⟨d, 0, none⟩)) ∧ W.cell? ⟨w.heap.size + 1, 0, none⟩ = some (.int .i64 z) ∧ W.frozen? ⟨w.heap.size + 1, 0, none⟩ = false ∧
    W.cell? ⟨w.heap.size + 1 + 1, 0, none⟩ = some (.int .i64 res) ∧ W.frozen? ⟨w.heap.size + 1 + 1, 0, none⟩ = false
theorem wi_own {w W W' : World} {F : List Nat} {d n B : Nat} {z res : Int} {s : DS} {row : Option Nat} (h : WI w F d n z res s W) (hF : ∀ k ∈ F, k < w.heap.size) (hB : w.heap.size ≤ B) (hg : W.grownBy W' row) (hr : ∀ r, row = some r → B ≤ r ∧ ∃ o : Obj, W.heap[r]? = some o ∧ o.isCells = false) : WI w F d n z res s W' := by
  obtain ⟨h1, h2, h3, h4, h5, h6, h7⟩ := h
  have hd : Disj F row.toList := fun k hk hm => by
    have := hF k hk
    have := (hr k (by simpa using hm)).1
    omega
  have hc := fun r e => (hr r e).2
  exact ⟨h1.keep (bar_grown hg) hd, h2.trans (bar_grown hg) (fun x hx => .inr (by have := (hr x (by simpa using hx)).1; omega)), cell_kept h3 hg hc, cell_kept h4 hg hc, (frozen_kept h4 hg hc).trans h5, cell_kept h6 hg hc, (frozen_kept h6 hg hc).trans h7⟩
/-- a call of the disk's -/
theorem wi_step {w W W' : World} {F : List Nat} {d n : Nat} {z res : Int} {s s' : DS} (h : WI w F d n z res s W) (hF : ∀ k ∈ F, k < w.heap.size) (k1 : Dk W' F d n s') (k2 : Bar F W W') : WI w F d n z res s' W' := by
  obtain ⟨h1, h2, h3, h4, h5, h6, h7⟩ := h
  have hb : ∀ j v, W.cell? ⟨w.heap.size + j, 0, none⟩ = some v → W'.cell? ⟨w.heap.size + j, 0, none⟩ = some v ∧ W'.frozen? ⟨w.heap.size + j, 0, none⟩ = W.frozen? ⟨w.heap.size + j, 0, none⟩ := fun j v hv => by
    have e := k2.block (w.heap.size + j) (World.block_lt_of_cell? _ _ hv) (fun hm => by have := hF _ hm; omega)
    exact ⟨(World.cell?_of_block e).trans hv, by unfold World.frozen?; simp only; rw [e]⟩
  exact ⟨k1, h2.trans k2 (fun x hx => .inl hx), (hb 0 _ h3).1, (hb 1 _ h4).1, (hb 1 _ h4).2.trans h5, (hb (1 + 1) _ h6).1, (hb (1 + 1) _ h6).2.trans h7⟩
theorem keeps_bar {F : List Nat} {W W' : World} {B : Nat} (h : Bar F W W') (hF : ∀ k ∈ F, k < B) : KeepsFrom B W W' := ⟨h.size, fun k o hB hk _ => (h.block k (Array.getElem?_eq_some_iff.1 hk).1 (fun hm => by have := hF k hm; omega)).trans hk⟩
theorem two_bar {F : List Nat} {W W' : World} {x y : Nat} (h : Bar F W W') (hx : x ∉ F) (hy : y ∉ F) : Two x y W W' :=
  ⟨fun _ hv => (World.cell?_of_block (h.block x (World.block_lt_of_cell? _ _ hv) hx)).trans hv, fun _ hv => (World.cell?_of_block (h.block y (World.block_lt_of_cell? _ _ hv) hy)).trans hv⟩

theorem wi_set1 {w W : World} {F : List Nat} {d n : Nat} {z res : Int} {s : DS} (h : WI w F d n z res s W) (hF : ∀ k ∈ F, k < w.heap.size) (z' : Int) : WI w F d n z' res s (W.setCell ⟨w.heap.size + 1, 0, none⟩ (.int .i64 z')) := by
  obtain ⟨h1, h2, h3, h4, h5, h6, h7⟩ := h
  have hb : Bar [w.heap.size + 1] W (W.setCell ⟨w.heap.size + 1, 0, none⟩ (.int .i64 z')) := (Bar.refl _ _).setCell (by simp) _
  have ho : ∀ x v, x ≠ w.heap.size + 1 → W.cell? ⟨x, 0, none⟩ = some v → (W.setCell ⟨w.heap.size + 1, 0, none⟩ (.int .i64 z')).cell? ⟨x, 0, none⟩ = some v := fun x v hx hv => (World.cell?_of_block (hb.block x (World.block_lt_of_cell? _ _ hv) (by simpa using hx))).trans hv
  exact ⟨h1.keep hb (fun q hq => by have := hF q hq; simp; omega), h2.trans hb (fun x hx => .inr (by simp at hx; omega)), ho _ _ (by omega) h3, World.cell?_setCell_same' _ _ _ (by rw [h4]; rfl), by rw [World.frozen?_setCell]; exact h5, ho _ _ (by omega) h6, by rw [World.frozen?_setCell]; exact h7⟩
theorem wi_set2 {w W : World} {F : List Nat} {d n : Nat} {z res : Int} {s : DS} (h : WI w F d n z res s W) (hF : ∀ k ∈ F, k < w.heap.size) (r' : Int) : WI w F d n z r' s (W.setCell ⟨w.heap.size + 1 + 1, 0, none⟩ (.int .i64 r')) := by
  obtain ⟨h1, h2, h3, h4, h5, h6, h7⟩ := h
  have hb : Bar [w.heap.size + 1 + 1] W (W.setCell ⟨w.heap.size + 1 + 1, 0, none⟩ (.int .i64 r')) := (Bar.refl _ _).setCell (by simp) _
  have ho : ∀ x v, x ≠ w.heap.size + 1 + 1 → W.cell? ⟨x, 0, none⟩ = some v → (W.setCell ⟨w.heap.size + 1 + 1, 0, none⟩ (.int .i64 r')).cell? ⟨x, 0, none⟩ = some v := fun x v hx hv => (World.cell?_of_block (hb.block x (World.block_lt_of_cell? _ _ hv) (by simpa using hx))).trans hv
  exact ⟨h1.keep hb (fun q hq => by have := hF q hq; simp; omega), h2.trans hb (fun x hx => .inr (by simp at hx; omega)), ho _ _ (by omega) h3, ho _ _ (by omega) h4, by rw [World.frozen?_setCell]; exact h5, World.cell?_setCell_same' _ _ _ (by rw [h6]; rfl), by rw [World.frozen?_setCell]; exact h7⟩
theorem two_set (x y q : Nat) (W : World) (v : Value) (hx : x ≠ q) (hy : y ≠ q) : Two x y W (W.setCell ⟨q, 0, none⟩ v) := two_bar (F := [q]) ((Bar.refl _ _).setCell (by simp) _) (by simpa using hx) (by simpa using hy)
theorem bar_putObj (W : World) (D : Nat) (o : Obj) : Bar [D] W (W.putObj D o) := bar_grown (row := some D) (grownBy_putObj' W D o)
/-- on the way out: what is told is laid into its box, and the loop's block is shut -/
theorem jw_end {w W w' : World} {F F' : List Nat} {d n : Nat} {s2 : DS} {D : Nat} {c2 v : Value} (hF : ∀ k ∈ F, k < w.heap.size) (hWb : Bar F w W) (dk : Dk w' F' d n s2) (fp : Fp F F' W w') (hc : W.cell? ⟨w.heap.size + 1 + 1, 0, none⟩ = some c2) (hD : w.heap.size + 5 ≤ D) (hK : W.heap[D]? = some (.deferred (some []))) :
    w'.cell? ⟨w.heap.size + 1 + 1, 0, none⟩ = some c2 ∧ w'.frozen? ⟨w.heap.size + 1 + 1, 0, none⟩ = W.frozen? ⟨w.heap.size + 1 + 1, 0, none⟩ ∧ (w'.setCell ⟨w.heap.size + 1 + 1, 0, none⟩ v).heap[D]? = some (.deferred (some [])) ∧
    ((w'.setCell ⟨w.heap.size + 1 + 1, 0, none⟩ v).putObj D (.deferred none)).cell? ⟨w.heap.size + 1 + 1, 0, none⟩ = some v ∧ Dk ((w'.setCell ⟨w.heap.size + 1 + 1, 0, none⟩ v).putObj D (.deferred none)) F' d n s2 ∧ Fp F F' w ((w'.setCell ⟨w.heap.size + 1 + 1, 0, none⟩ v).putObj D (.deferred none)) := by
  have hlt : w.heap.size + 1 + 1 < W.heap.size := World.block_lt_of_cell? _ _ hc
  have hDl : D < W.heap.size := (Array.getElem?_eq_some_iff.1 hK).1
  have e := fp.1.block (w.heap.size + 1 + 1) hlt (fun hm => by have := hF _ hm; omega)
  have eD := fp.1.block D hDl (fun hm => by have := hF _ hm; omega)
  have hc' : w'.cell? ⟨w.heap.size + 1 + 1, 0, none⟩ = some c2 := (World.cell?_of_block e).trans hc
  have hb1 : Bar [w.heap.size + 1 + 1] w' (w'.setCell ⟨w.heap.size + 1 + 1, 0, none⟩ v) := (Bar.refl _ _).setCell (by simp) _
  have hK2 : (w'.setCell ⟨w.heap.size + 1 + 1, 0, none⟩ v).heap[D]? = some (.deferred (some [])) := (hb1.block D (by have := fp.1.size; omega) (by simp; omega)).trans (eD.trans hK)
  have hb2 := bar_putObj (w'.setCell ⟨w.heap.size + 1 + 1, 0, none⟩ v) D (.deferred none)
  have far : ∀ k ∈ F', k ≠ w.heap.size + 1 + 1 ∧ k ≠ D := fun k hk => by
    rcases fp.2 k hk with h1 | h1
    · have := hF k h1; omega
    · omega
  have hbb : Bar F w ((w'.setCell ⟨w.heap.size + 1 + 1, 0, none⟩ v).putObj D (.deferred none)) := ((hWb.trans fp.1 (fun x hx => .inl hx)).trans hb1 (fun x hx => .inr (by simp at hx; omega))).trans hb2 (fun x hx => .inr (by simp at hx; omega))
  refine ⟨hc', by unfold World.frozen?; simp only; rw [e], hK2, cell_kept (World.cell?_setCell_same' _ _ _ (by rw [hc']; rfl)) (grownBy_putObj' _ D (.deferred none)) (fun r e => by cases e; exact ⟨_, hK2, rfl⟩),
    (dk.keep hb1 (fun k hk => by simpa using (far k hk).1)).keep hb2 (fun k hk => by simpa using (far k hk).2), hbb, fun k hk => ?_⟩
  rcases fp.2 k hk with h1 | h1
  · exact .inl h1
  · exact .inr (Nat.le_trans hWb.size h1)
/-- five boxes, one behind the other -/
theorem five_new (w : World) (t0 t1 t2 t3 t4 : TypeId) (c0 c1 c2 c3 c4 : Value) : ∃ W0, (((((w.alloc (.cells #[c0] t0)).alloc (.cells #[c1] t1)).alloc (.cells #[c2] t2)).alloc (.cells #[c3] t3)).alloc (.cells #[c4] t4)) = W0 ∧ W0.heap.size = w.heap.size + 5 ∧ Below w.heap.size w W0 ∧
    Blk W0 w.heap.size t0 #[c0] ∧ Blk W0 (w.heap.size + 1) t1 #[c1] ∧ Blk W0 (w.heap.size + 1 + 1) t2 #[c2] ∧ Blk W0 (w.heap.size + 1 + 1 + 1) t3 #[c3] ∧ Blk W0 (w.heap.size + 1 + 1 + 1 + 1) t4 #[c4] :=
  ⟨_, rfl, by simp, (((((Below.refl _ w).alloc (Nat.le_refl _) _).alloc (by simp) _).alloc (by simp; omega) _).alloc (by simp; omega) _).alloc (by simp; omega) _,
    ((((Blk.new w _ _).alloc _).alloc _).alloc _).alloc _, (((Blk.new_at _ _ _ _ (by simp)).alloc _).alloc _).alloc _, ((Blk.new_at _ _ _ _ (by simp)).alloc _).alloc _, (Blk.new_at _ _ _ _ (by simp)).alloc _, Blk.new_at _ _ _ _ (by simp)⟩

set_option maxRecDepth 100000 in
set_option maxHeartbeats 2000000 in
theorem jwrite_any {w : World} {F : List Nat} {d n : Nat} {s : DS} (h : Dk w F d n s) (home k c g o : Nat) {b : List Int} (hk0 : 0 < k) (hk9 : k ≤ 100000) (hh9 : home ≤ 100000) (hr : Rd w (some ⟨g, o, none⟩) (64 * k) b) (hc : 64 * k ≤ c) (hO : g ∉ F) :
    Calls Tryz.prog 82 #[.pointer (some ⟨d, 0, none⟩), .int .i64 (home : Nat), .slice (some ⟨g, o, none⟩) (64 * k) c] w (StepPost (fun w' F' s' => Dk w' F' d n s') w F (writeJ b home k s)) := by
  have hF := h.lts
  have HR : Kept (∀ W, Bar F w W → ∀ x, x < k → Rd W (some ⟨g, o + 64 * x, none⟩) 64 (piece b x)) := ⟨fun W hb x hx => by
    have r1 : Rd W (some ⟨g, o, none⟩) (64 * k) b := hr.far hb (.inr ⟨g, o, rfl, hO⟩)
    obtain ⟨a1, a2, a3⟩ := r1
    have a4 := a3.resolve_left (by omega)
    obtain ⟨g', o', e, hcell⟩ := a4
    injection e with e; injection e with e1 e2
    subst e1 e2
    refine ⟨by unfold piece; rw [List.length_take, List.length_drop, a1]; omega, (a2.drop _).take _, .inr ⟨g, o + 64 * x, rfl, fun i hi => ?_⟩⟩
    rw [Nat.add_assoc, hcell _ (by omega)]
    unfold piece
    rw [at_take hi, at_drop]⟩
  have hlen := hr.1
  clear hr
  refine (callsIn_wide (n := 3)).1 ?_
  refine callsIn_of_wp_marks Tryz.func82 rfl trivial ?_ rfl
  simp only [Tryz.ntmps82, List.size_toArray, List.length_cons, List.length_nil, Nat.reduceAdd, Nat.reduceSub, Array.replicate_succ, Array.replicate_zero, List.push_toArray, List.append_toArray, List.nil_append, List.cons_append]
  gi_wp2_with (refine ⟨trivial, ?_⟩; gi_at_call 102; refine (callsIn_wide.2 (chunk_any _ _ _ _)).mono ?_; rintro e w' ⟨rfl, rfl⟩)
  obtain ⟨W0, hW0, hsz, bel, k0, k1, k2, k3, k4⟩ := five_new w 27 3 28 38 3 (.pointer (some ⟨d, 0, none⟩)) (.int .i64 (home : Nat)) (.int .i64 0) (.slice (some ⟨g, o, none⟩) (64 * k) c) (.int .i64 64)
  rw [hW0]
  have HW := Kept.mk (show WI w F d n ((home : Nat) : Int) 0 s W0 from ⟨h.keep (barOf bel []) (fun _ _ => by simp), barOf bel _, k0.cell 0, k1.cell 0, k1.frozen 0, k2.cell 0, k2.frozen 0⟩)
  have e3 := k3.cell 0
  have e4 := k4.cell 0
  clear hW0 k0 k1 k2 k3 k4 h
  have hFB : ∀ q ∈ F, q < W0.heap.size := fun q hq => by have := hF q hq; omega
  obtain ⟨B, hB⟩ : ∃ B, W0.heap.size = B := ⟨_, rfl⟩
  have hNB : w.heap.size + 5 = B := by omega
  let fd : List (Fin k) → Nat × Int × DS := fun pre => (pre.map (·.1)).foldl (stepW b home) (0, 0, s)
  have fd1 : ∀ pre x, fd (pre ++ [x]) = stepW b home (fd pre) x.1 := fun pre x => by simp only [fd, List.map_append, List.map_cons, List.map_nil, List.foldl_append, List.foldl_cons, List.foldl_nil]
  have fd2 : ∀ pre, (fd pre).1 ≤ pre.length := fun pre => by have := stepW_len b home (pre.map (·.1)) (0, 0, s); simpa [fd] using this
  have fd3 : (fd (ups k hk0 k)).2 = rowsJ b home k 0 s := by simp only [fd]; rw [ups_val hk0 k (Nat.le_refl _)]; exact stepW_all b home k s
  have fd4 : ∀ m, m ≤ k → (fd (ups k hk0 m)).2.1 ≠ 0 → (fd (ups k hk0 m)).2 = rowsJ b home k 0 s := fun m hm => by simp only [fd]; rw [ups_val hk0 m hm]; exact stepW_part b home k m s hm
  have fd0 : fd [] = (0, 0, s) := rfl
  generalize fd = fd at *
  refine wpIn_rangeFunc_ownG (F := Fence.wide) (n := 3) rfl (by omega) (α := Fin k) (gf := 124) (lb := #[.pointer (some ⟨w.heap.size + 1 + 1 + 1, 0, none⟩), .pointer (some ⟨w.heap.size + 1 + 1 + 1 + 1, 0, none⟩)]) rfl trivial (enters_of Tryz.func124 (by kernel_rfl) rfl)
    (encs := fun x => #[.slice (some ⟨g, o + 64 * x.1, none⟩) 64 64]) (Kp := Two (w.heap.size + 1 + 1 + 1) (w.heap.size + 1 + 1 + 1 + 1)) (S := fun ys => ys = ups k hk0 k) (Sp := fun pre => ∃ m, m ≤ k ∧ pre = ups k hk0 m) (N := k) (w0 := W0)
    (fun l J Jx W hW hJ _ hY h0 => chunk1_in 2 (by omega) l _ _ g o k c hk0 hc hk9 J Jx W hJ hY ((hW.cell (p := ⟨w.heap.size + 1 + 1 + 1, 0, none⟩) (by simp only; omega)).trans e3) ((hW.cell (p := ⟨w.heap.size + 1 + 1 + 1 + 1, 0, none⟩) (by simp only; omega)).trans e4) h0)
    two_t (fun W l o o' _ h ho _ => two_b W l o o' h ho) (Below.refl _ _) (fun _ => rfl)
    (fun pre W => (fd pre).2.1 = 0 ∧ WI w F d n ((home : Int) + (fd pre).1) 0 (fd pre).2.2 W)
    (fun c pre W => c = .ret ∧ (fd pre).2.1 ≠ 0 ∧ ∃ z, WI w F d n z (fd pre).2.1 (fd pre).2.2 W)
    (fun pre A C row hs hg hr => ⟨hs.1, wi_own hs.2 hF (by omega) hg hr⟩)
    (fun c pre A C row hs hg hr => by obtain ⟨h1, h2, z, h3⟩ := hs; exact ⟨h1, h2, z, wi_own h3 hF (by omega) hg hr⟩)
    ⟨by rw [fd0], by rw [fd0]; simpa using HW.out⟩
    (fun x => { tmps := #[.pointer (some ⟨d, 0, none⟩), .int .i64 (home : Nat), .slice (some ⟨g, o, none⟩) (64 * k) c, .pointer (some ⟨w.heap.size, 0, none⟩), .pointer (some ⟨w.heap.size + 1, 0, none⟩), undef, .pointer (some ⟨w.heap.size + 1 + 1, 0, none⟩), .slice (some ⟨g, o + 64 * x.1, none⟩) 64 64, undef, .slice (some ⟨g, o, none⟩) (64 * k) c, .func (.func 124) #[] #[.pointer (some ⟨w.heap.size + 1 + 1 + 1, 0, none⟩), .pointer (some ⟨w.heap.size + 1 + 1 + 1 + 1, 0, none⟩)], .slice (some ⟨g, o + 64 * x.1, none⟩) 64 64, undef, undef, undef, undef, undef, undef, undef, undef, undef, undef, undef], defers := [] }) ?assign ?body ?done ?stop
  case assign =>
    intro l x W K hK
    gi_wp2
    exact hK
  case body =>
    rintro l pre x W ⟨hz, hw⟩ hlen2
    have hp := fd2 pre
    obtain ⟨q, s1, hq⟩ : ∃ q s1, fd pre = (q, 0, s1) := ⟨(fd pre).1, (fd pre).2.2, Prod.ext rfl (Prod.ext hz rfl)⟩
    have hst : fd (pre ++ [x]) = (q + 1, writeD s1 ((home : Int) + q) (piece b x.1)) := by rw [fd1, hq]; unfold stepW; rw [if_pos rfl, Int.natCast_add]
    rw [hq] at hw hp
    simp only at hw hp
    have cw := Kept.mk (cwrite_same ((home : Int) + q) (c := 64) hw.1 (HR.out W hw.2.1 x.1 x.2) (.inr ⟨g, _, rfl, hO⟩))
    obtain ⟨re, s2, hre⟩ : ∃ re s2, writeD s1 ((home : Int) + q) (piece b x.1) = (re, s2) := ⟨_, _, rfl⟩
    rw [hre] at cw hst
    have HWW := Kept.mk hw
    have HST := Kept.mk hst
    have c0 := hw.2.2.1
    have c1 := hw.2.2.2.1
    clear hw hst hq hz fd1 fd2 fd3 fd4 fd0 hre HW
    have hW1 : wrap64 ((home : Int) + q + 1) = (home : Int) + q + 1 := by unfold wrap64; omega
    by_cases h0 : re = 0
    · subst h0
      gi_wp2_with (refine ⟨trivial, ?_⟩; gi_at_call 20; refine (CallsIn.inRound l (callsIn_wide.2 cw.out)).mono ?_; rintro e w' ⟨rfl, dk, br⟩; have HWB := Kept.mk (wi_step HWW.out hF dk br); have HBR := Kept.mk br; have c1' := HWB.out.2.2.2.1; have f1' := HWB.out.2.2.2.2.1; clear dk br cw c1 c0)
      refine ⟨(keeps_bar HBR.out hFB).trans ((KeepsOthers.setCell _ _ _).from _), two_t (two_bar HBR.out (fun hm => by have := hF _ hm; omega) (fun hm => by have := hF _ hm; omega)) (two_set _ _ _ _ _ (by omega) (by omega)), ?_⟩
      show (fd (pre ++ [x])).2.1 = 0 ∧ WI w F d n ((home : Int) + (fd (pre ++ [x])).1) 0 (fd (pre ++ [x])).2.2 _
      rw [HST.out]
      refine ⟨rfl, ?_⟩
      have := wi_set1 HWB.out hF ((home : Int) + q + 1)
      simp only [Int.natCast_add, Int.natCast_one]
      rw [← Int.add_assoc]
      exact this
    · gi_wp2_with (refine ⟨trivial, ?_⟩; gi_at_call 20; refine (CallsIn.inRound l (callsIn_wide.2 cw.out)).mono ?_; rintro e w' ⟨rfl, dk, br⟩; have HWB := Kept.mk (wi_step HWW.out hF dk br); have HBR := Kept.mk br; have c2' := HWB.out.2.2.2.2.2.1; have f2' := HWB.out.2.2.2.2.2.2; clear dk br cw c1 c0)
      refine ⟨(keeps_bar HBR.out hFB).trans ((KeepsOthers.setCell _ _ _).from _), rfl, ?_⟩
      show (fd (pre ++ [x])).2.1 ≠ 0 ∧ ∃ z, WI w F d n z (fd (pre ++ [x])).2.1 (fd (pre ++ [x])).2.2 _
      rw [HST.out]
      exact ⟨h0, _, wi_set2 HWB.out hF re⟩
  case done =>
    rintro D ys W hD rfl ⟨hz, hw⟩ hK
    have hrow : rowsJ b home k 0 s = (0, (fd (ups k hk0 k)).2.2) := by rw [← fd3]; exact Prod.ext hz rfl
    have hwj : writeJ b home k s = syncD (fd (ups k hk0 k)).2.2 := by unfold writeJ; rw [hrow]; rfl
    obtain ⟨s1, hs1⟩ : ∃ s1, (fd (ups k hk0 k)).2.2 = s1 := ⟨_, rfl⟩
    rw [hs1] at hw hwj
    obtain ⟨re, s2, hre⟩ : ∃ re s2, syncD s1 = (re, s2) := ⟨_, _, rfl⟩
    rw [hre] at hwj
    have HWJ := Kept.mk hwj
    have cs := Kept.mk (csync_any hw.1)
    rw [hre] at cs
    have HWW := Kept.mk hw
    have c0 := hw.2.2.1
    clear hw fd1 fd2 fd3 fd4 fd0 HW hz hrow hwj hs1 hre
    gi_wp2_with (refine ⟨trivial, ?_⟩; gi_at_call 103; refine (callsIn_wide.2 cs.out).mono ?_; rintro e w' ⟨rfl, F', dk, fp⟩; obtain ⟨g1, g2, g3, g4, g5, g6⟩ := jw_end (v := .int .i64 re) hF HWW.out.2.1 dk fp HWW.out.2.2.2.2.2.1 (by omega) hK; rw [HWW.out.2.2.2.2.2.2] at g2; have G5 := Kept.mk g5; have G6 := Kept.mk g6; clear g5 g6 dk fp cs c0 hK)
    refine ⟨by simp, .inl ⟨_, _, rfl, run_takeDeferred g3, ?_⟩⟩
    refine ⟨.int .i64 re, ?_, ?_⟩
    · simp [results, Tryz.f82, go_sem, g4]
    · rw [HWJ.out]
      exact ⟨rfl, F', G5.out, G6.out⟩
  case stop =>
    rintro D c pre W hD ⟨m, hm, rfl⟩ ⟨rfl, hz, z, hw⟩ hK
    have hrow : rowsJ b home k 0 s = (fd (ups k hk0 m)).2 := (fd4 m hm hz).symm
    have hwj : writeJ b home k s = (fd (ups k hk0 m)).2 := by unfold writeJ; rw [hrow]; unfold thenJ; rw [if_neg hz]
    obtain ⟨re, s2, hre⟩ : ∃ re s2, (fd (ups k hk0 m)).2 = (re, s2) := ⟨_, _, rfl⟩
    rw [hre] at hwj hw
    have HWJ := Kept.mk hwj
    have hD2 : w.heap.size + 5 ≤ D := by omega
    have hKb := bar_putObj W D (.deferred none)
    have hfar : D ∉ F := fun hm => by have := hF _ hm; omega
    have G4 : (W.putObj D (.deferred none)).cell? ⟨w.heap.size + 1 + 1, 0, none⟩ = some (.int .i64 re) := cell_kept hw.2.2.2.2.2.1 (grownBy_putObj' W D (.deferred none)) (fun r e => by cases e; exact ⟨_, hK, rfl⟩)
    have G5 : Kept (StepPost (fun w' F' s' => Dk w' F' d n s') w F (writeJ b home k s) (.returned (.int .i64 re)) (W.putObj D (.deferred none))) := ⟨by
      rw [hwj]
      exact ⟨rfl, F, hw.1.keep hKb (fun k hk => by simp; intro h; exact hfar (h ▸ hk)), hw.2.1.trans hKb (fun x hx => .inr (by simp at hx; omega)), fun k hk => .inl hk⟩⟩
    gi_wp2
    refine ⟨by simp, .inl ⟨_, _, rfl, run_takeDeferred hK, ?_⟩⟩
    refine ⟨.int .i64 re, ?_, by have := G5.out; rw [hwj] at this; exact this⟩
    simp [results, Tryz.f82, go_sem, G4]
end Go.Proofs.YtjlhnhkjgcbnnaaGreat.Journal

/-
  The landed journal: store, a frame's sectors, its first one last.
-/

namespace Go.Proofs.YtjlhnhkjgcbnnaaGreat.Journal
open Go.RowKit Go.Proofs.YtjlhnhkjgcbnnaaGreat.Sha Go.Proofs.YtjlhnhkjgcbnnaaGreat.Disk Go.Proofs.YtjlhnhkjgcbnnaaGreat.Frame

theorem rd_head {w : World} {A : Option Addr} {n : Nat} {xs : List Int} (r : Rd w A n xs) (m : Nat) (hm : m ≤ n) : Rd w A m (xs.take m) := by
  obtain ⟨r1, r2, r3⟩ := r
  refine ⟨by rw [List.length_take]; omega, r2.take _, ?_⟩
  rcases r3 with h | ⟨b, o, rfl, hc⟩
  · exact .inl (by omega)
  · exact .inr ⟨b, o, rfl, fun i hi => by rw [at_take hi]; exact hc i (by omega)⟩
set_option maxRecDepth 100000 in
set_option maxHeartbeats 1000000 in
theorem jstore_any {w : World} {F : List Nat} {d n : Nat} {s : DS} (h : Dk w F d n s) (home k c g o : Nat) {b : List Int} (hk9 : k ≤ 90000) (hh9 : home ≤ 90000) (hr : Rd w (some ⟨g, o, none⟩) (64 * (k + 1)) b) (hc : 64 * (k + 1) ≤ c) (hO : g ∉ F) :
    Calls Tryz.prog 61 #[.pointer (some ⟨d, 0, none⟩), .int .i64 (home : Nat), .slice (some ⟨g, o, none⟩) (64 * (k + 1) : Nat) c] w (StepPost (fun w' F' s' => Dk w' F' d n s') w F (layJ s home b)) := by
  have hF := h.lts
  have hlen := hr.1
  have hg : g < w.heap.size := by
    obtain ⟨g', o', e, hcell⟩ := hr.2.2.resolve_left (by omega)
    injection e with e; injection e with e1 e2
    subst e1
    exact World.block_lt_of_cell? _ _ (hcell 0 (by omega))
  have s1 := fun w' => slice_h_at (some ⟨g, o, none⟩) (64 * (k + 1)) c 64 (by omega) 64 rfl w'
  have C1 : Kept (∀ w1 F1 s1, Dk w1 F1 d n s1 → g ∉ F1 → Rd w1 (some ⟨g, o, none⟩) (64 * (k + 1)) b → Calls Tryz.prog 82 #[.pointer (some ⟨d, 0, none⟩), .int .i64 (home : Nat), .slice (some ⟨g, o, none⟩) 64 c] w1 (StepPost (fun w' F' s' => Dk w' F' d n s') w1 F1 (writeJ (b.take 64) home 1 s1))) := ⟨fun w1 F1 s1 h1 h2 h3 => by
    have r1 : Rd w1 (some ⟨g, o, none⟩) (64 * 1) (b.take 64) := rd_head h3 64 (by omega)
    exact jwrite_any h1 home 1 c g o (by omega) (by omega) (by omega) r1 (by omega) h2⟩
  by_cases hk : k = 0
  · subst hk
    obtain ⟨A2, s2, -, -⟩ := slice_l hr (by omega) 64 (by omega) 64 rfl
    have hlay := lay_short home s (b := b) (by omega)
    have cc := Kept.mk fun q => C1.out (w.drewN q) F s (h.keep (barOf (below_drewN (Below.refl _ _) q) []) (fun _ _ => by simp)) hO (hr.below (below_drewN (Below.refl _ _) q))
    have PF := Kept.mk (fun q r e w' (hp : StepPost (fun w' F' s' => Dk w' F' d n s') (w.drewN q) F r e w') => (show StepPost (fun w' F' s' => Dk w' F' d n s') w F r e w' from by
      obtain ⟨e1, F', e2, e3⟩ := hp
      exact ⟨e1, F', e2, Fp.trans (⟨barOf (below_drewN (Below.refl _ _) q) _, fun _ h => .inl h⟩ : Fp F F w (w.drewN q)) e3⟩))
    rw [hlay]
    clear h hr C1 hlay
    go_enter Tryz.func61, Tryz.ntmps61
    go_wp2
    go_quiet (fail)
    go_wp2_with fail
    refine (cc.out nq).mono ?_
    intro e w' hp
    have hp2 := PF.out nq _ _ _ hp
    obtain rfl := hp2.1
    have HP := Kept.mk hp2
    clear hp hp2 cc PF
    go_wp2
    go_ret
    exact HP.out
  · obtain ⟨hk0⟩ : Kept (0 < k) := ⟨by omega⟩
    have s2 := fun w' => slice_l_at g o (64 * (k + 1)) c 64 (by omega) (by omega) 64 rfl w'
    rw [show 64 * (k + 1) - 64 = 64 * k by omega] at s2
    have hlay := lay_long home k s hlen hk0
    have hr2 : Rd w (some ⟨g, o + 64, none⟩) (64 * k) (b.drop 64) := by
      obtain ⟨r1, r2, r3⟩ := hr
      obtain ⟨g', o', e, hcell⟩ := r3.resolve_left (by omega)
      injection e with e; injection e with e1 e2
      subst e1 e2
      exact ⟨by rw [List.length_drop]; omega, r2.drop _, .inr ⟨g, o + 64, rfl, fun i hi => by rw [at_drop, Nat.add_assoc]; exact hcell _ (by omega)⟩⟩
    have cc := Kept.mk fun q => jwrite_any (w := w.drewN q) (h.keep (barOf (below_drewN (Below.refl _ _) q) []) (fun _ _ => by simp)) (home + 1) k (c - 64) g (o + 64) hk0 (by omega) (by omega) (hr2.below (below_drewN (Below.refl _ _) q)) (by omega) hO
    rw [Int.natCast_add] at cc
    have PF := Kept.mk (fun q F' w' (hp : Fp F F' (w.drewN q) w') => (show Fp F F' w w' from Fp.trans (⟨barOf (below_drewN (Below.refl _ _) q) _, fun _ h => .inl h⟩ : Fp F F w (w.drewN q)) hp))
    have hW1 : wrap64 ((home : Int) + 1) = (home : Int) + 1 := by unfold wrap64; omega
    have hkn : (0 : Int) < ((64 * k : Nat) : Int) := by omega
    rw [hlay]
    have HR := Kept.mk hr
    obtain ⟨re, s3, hre⟩ : ∃ re s3, writeJ (b.drop 64) (home + 1) k s = (re, s3) := ⟨_, _, rfl⟩
    rw [hre] at cc ⊢
    clear h hr hlay hr2 hre
    by_cases h0 : re = 0
    · subst h0
      rw [show thenJ ((0 : Int), s3) (writeJ (b.take 64) home 1) = writeJ (b.take 64) home 1 s3 from rfl]
      go_enter Tryz.func61, Tryz.ntmps61
      go_wp2
      go_quiet (fail)
      go_wp2_with fail
      refine (cc.out nq).mono ?_
      rintro e w1 ⟨rfl, F1, dk1, fp1⟩
      have FP1 := Kept.mk (PF.out _ _ _ fp1)
      have g1 : g ∉ F1 := fun hm => by
        rcases FP1.out.2 g hm with h1 | h1
        · exact hO h1
        · omega
      have c1 := Kept.mk (C1.out w1 F1 s3 dk1 g1 (HR.out.far FP1.out.1 (.inr ⟨g, o, rfl, hO⟩)))
      clear cc PF dk1 fp1 C1
      go_wp2_with fail
      refine c1.out.mono ?_
      rintro e w2 ⟨rfl, F2, dk2, fp2⟩
      have HP := Kept.mk (show StepPost (fun w' F' s' => Dk w' F' d n s') w F (writeJ (b.take 64) home 1 s3) _ w2 from ⟨rfl, F2, dk2, FP1.out.trans fp2⟩)
      clear c1 dk2 fp2 FP1
      go_wp2
      go_ret
      exact HP.out
    · rw [show thenJ (re, s3) (writeJ (b.take 64) home 1) = (re, s3) by unfold thenJ; rw [if_neg h0]]
      go_enter Tryz.func61, Tryz.ntmps61
      go_wp2
      go_quiet (fail)
      go_wp2_with fail
      refine (cc.out nq).mono ?_
      rintro e w1 ⟨rfl, F1, dk1, fp1⟩
      have HP := Kept.mk (show StepPost (fun w' F' s' => Dk w' F' d n s') w F (re, s3) (.returned (.int .i64 re)) w1 from ⟨rfl, F1, dk1, PF.out _ _ _ fp1⟩)
      clear cc PF dk1 fp1 C1
      go_wp2
      go_ret
      exact HP.out
end Go.Proofs.YtjlhnhkjgcbnnaaGreat.Journal
