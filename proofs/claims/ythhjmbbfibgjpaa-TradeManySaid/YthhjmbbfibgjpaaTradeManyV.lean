/-
  The law TradeMany, over plain values.
-/
import Derived.Test.YthhjmbbfibgjpaaTradeSidesV
namespace Go.Proofs.Ythhjmbbfibgjpaa.Trade
open Go.Proofs.Ythhjmbbfibgjpaa.Sha

/-- trade number i -/
def tm (i : Int) : TV := ⟨i, i % 4, (i + 1) % 4, i % 2, i + 1, i / 2 % 2, 7⟩
def cb (k : Nat) : List CV := (List.range k).map (fun (i : Nat) => ⟨(i : Int) % 4, tm i⟩)
def cs (n k : Nat) : List CV := (List.range k).map (fun (j : Nat) => ⟨((n - 1 - j : Nat) + 1 : Int) % 4, tm (n - 1 - j : Nat)⟩)
def ba (k : Nat) : List TV := (List.range k).map (fun (i : Nat) => tm i)
def sa (n k : Nat) : List TV := (List.range k).map (fun (j : Nat) => tm (n - 1 - j : Nat))
theorem cb_next (k : Nat) : cb (k + 1) = cb k ++ [⟨(k : Int) % 4, tm k⟩] := by simp [cb, List.range_succ]
theorem cs_next (n k : Nat) : cs n (k + 1) = cs n k ++ [⟨((n - 1 - k : Nat) + 1 : Int) % 4, tm (n - 1 - k : Nat)⟩] := by simp [cs, List.range_succ]
theorem ba_next (k : Nat) : ba (k + 1) = ba k ++ [tm k] := by simp [ba, List.range_succ]
theorem sa_next (n k : Nat) : sa n (k + 1) = sa n k ++ [tm (n - 1 - k : Nat)] := by simp [sa, List.range_succ]
theorem cb_len (k : Nat) : (cb k).length = k := by simp [cb]
theorem cs_len (n k : Nat) : (cs n k).length = k := by simp [cs]
theorem tr_two (n k : Nat) : tr (cb n ++ cs n k) = ba n ++ sa n k := by
  unfold tr cb cs ba sa
  rw [List.map_append, List.map_map, List.map_map]
  rfl
theorem insI_last {i : Int} : ∀ {l : List Int}, (∀ j ∈ l, j < i) → insI i l = l ++ [i]
  | [], _ => rfl
  | a :: l, h => by
    unfold insI
    rw [if_pos (h a (by simp)), insI_last (fun j hj => h j (by simp [hj]))]
    rfl
def nat (n : Nat) : List Int := (List.range n).map (fun (i : Nat) => (i : Int))
theorem nat_next (n : Nat) : nat (n + 1) = nat n ++ [(n : Int)] := by simp [nat, List.range_succ]
theorem nat_mem {n : Nat} {j : Int} : j ∈ nat n ↔ 0 ≤ j ∧ j < n := by
  unfold nat
  simp only [List.mem_map, List.mem_range]
  exact ⟨fun ⟨i, hi, e⟩ => by omega, fun h => ⟨j.toNat, by omega, by omega⟩⟩
theorem ids_ba (n : Nat) : ids (ba n) = nat n := by
  induction n with
  | zero => rfl
  | succ n ih => rw [ba_next, ids_snoc, ih, nat_next]; exact insI_last (fun j hj => (nat_mem.1 hj).2)
theorem ids_all {n k : Nat} (hk : k ≤ n) : ids (ba n ++ sa n k) = nat n := by
  induction k with
  | zero => simp [sa, ids_ba]
  | succ k ih =>
    rw [sa_next, ← List.append_assoc, ids_snoc, ih (by omega)]
    refine insI_same ?_ (nat_mem.2 ?_)
    · rw [← ids_ba]; exact ids_rise _
    · show (0 : Int) ≤ ((n - 1 - k : Nat) : Int) ∧ ((n - 1 - k : Nat) : Int) < n
      omega
theorem ofID_ba (n : Nat) (i : Int) : ofID i (ba n) = if 0 ≤ i ∧ i < n then [tm i] else [] := by
  induction n with
  | zero => rw [if_neg (by omega)]; rfl
  | succ n ih =>
    rw [ba_next, ofID_snoc, ih]
    have e : (tm (n : Int)).id = n := rfl
    rw [e]
    by_cases h : (n : Int) = i
    · rw [if_neg (by omega), if_pos h, if_pos (by omega), h]; rfl
    · rw [if_neg h, List.append_nil]
      by_cases h2 : 0 ≤ i ∧ i < n
      · rw [if_pos h2, if_pos (by omega)]
      · rw [if_neg h2, if_neg (by omega)]
theorem ofID_sa {n k : Nat} (hk : k ≤ n) (i : Int) : ofID i (sa n k) = if ((n - k : Nat) : Int) ≤ i ∧ i < n then [tm i] else [] := by
  induction k with
  | zero => rw [if_neg (by omega)]; rfl
  | succ k ih =>
    rw [sa_next, ofID_snoc, ih (by omega)]
    have e : (tm ((n - 1 - k : Nat) : Int)).id = ((n - 1 - k : Nat) : Int) := rfl
    rw [e]
    by_cases h : ((n - 1 - k : Nat) : Int) = i
    · rw [if_neg (by omega), if_pos h, if_pos (by omega), h]; rfl
    · rw [if_neg h, List.append_nil]
      by_cases h2 : ((n - k : Nat) : Int) ≤ i ∧ i < n
      · rw [if_pos h2, if_pos (by omega)]
      · rw [if_neg h2, if_neg (by omega)]
theorem alike_all {n k : Nat} (hk : k ≤ n) {i : Int} (hi : 0 ≤ i ∧ i < n) : alike (ofID i (ba n ++ sa n k)) = if ((n - k : Nat) : Int) ≤ i then some (tm i) else none := by
  have e : ofID i (ba n ++ sa n k) = ofID i (ba n) ++ ofID i (sa n k) := by simp [ofID, List.filter_append]
  rw [e, ofID_ba, ofID_sa hk, if_pos hi]
  by_cases h : ((n - k : Nat) : Int) ≤ i
  · rw [if_pos ⟨h, hi.2⟩, if_pos h]; simp [alike]
  · rw [if_neg (fun c => h c.1), if_neg h]; simp [alike]
theorem nat_split {n k : Nat} (hk : k ≤ n) : nat n = nat (n - k) ++ (List.range k).map (fun (j : Nat) => ((n - k + j : Nat) : Int)) := by
  unfold nat
  have e : List.range n = List.range (n - k) ++ (List.range k).map (n - k + ·) := by
    rw [← List.range_add]; congr 1; omega
  rw [e, List.map_append, List.map_map]
  rfl
theorem filterMap_none {α β : Type} {f : α → Option β} : ∀ {l : List α}, (∀ x ∈ l, f x = none) → l.filterMap f = []
  | [], _ => rfl
  | x :: l, h => by rw [List.filterMap_cons, h x (by simp)]; exact filterMap_none (fun y hy => h y (by simp [hy]))
theorem filterMap_some {α β : Type} {f : α → Option β} {g : α → β} : ∀ {l : List α}, (∀ x ∈ l, f x = some (g x)) → l.filterMap f = l.map g
  | [], _ => rfl
  | x :: l, h => by rw [List.filterMap_cons, h x (by simp), List.map_cons]; exact congrArg _ (filterMap_some (fun y hy => h y (by simp [hy])))
theorem many_mat {n k : Nat} (hk : k ≤ n) : matched (ba n ++ sa n k) = (List.range k).map (fun (j : Nat) => tm (n - k + j : Nat)) := by
  unfold matched
  rw [ids_all hk, nat_split hk, List.filterMap_append, filterMap_none, List.nil_append]
  · have := filterMap_some (f := fun i => alike (ofID i (ba n ++ sa n k))) (g := fun i => tm i) (l := (List.range k).map (fun (j : Nat) => ((n - k + j : Nat) : Int))) (fun x hx => by
      simp only [List.mem_map, List.mem_range] at hx
      obtain ⟨j, hj, rfl⟩ := hx
      rw [alike_all hk (by omega), if_pos (by omega)])
    rw [this, List.map_map]
    rfl
  · intro x hx
    have := nat_mem.1 hx
    rw [alike_all hk (by omega), if_neg (by omega)]
theorem many_opn {n k : Nat} (hk : k ≤ n) : openI (ba n ++ sa n k) = nat (n - k) := by
  unfold openI
  rw [ids_all hk, nat_split hk, List.filter_append]
  have e1 : (nat (n - k)).filter (fun i => (alike (ofID i (ba n ++ sa n k))).isNone) = nat (n - k) := List.filter_eq_self.2 (fun x hx => by
    have := nat_mem.1 hx
    rw [alike_all hk (by omega), if_neg (by omega)]; rfl)
  have e2 : ((List.range k).map (fun (j : Nat) => ((n - k + j : Nat) : Int))).filter (fun i => (alike (ofID i (ba n ++ sa n k))).isNone) = [] := List.filter_eq_nil_iff.2 (fun x hx => by
    simp only [List.mem_map, List.mem_range] at hx
    obtain ⟨j, hj, rfl⟩ := hx
    rw [alike_all hk (by omega), if_pos (by omega)]
    simp)
  rw [e1, e2, List.append_nil]
theorem nat_len (n : Nat) : (nat n).length = n := by simp [nat]
theorem tm_may {i : Int} (h : 0 ≤ i ∧ i < 101) : mayE (tm i) 4 2 2 = 0 := may_mk (by dsimp only [tm]; omega)
theorem has_cb {k : Nat} {who i : Int} (h : (k : Int) ≤ i) : hasC (cb k) who i = false := by
  unfold hasC
  rw [List.any_eq_false]
  intro c hc
  unfold cb at hc
  simp only [List.mem_map, List.mem_range] at hc
  obtain ⟨j, hj, rfl⟩ := hc
  have : (tm (j : Int)).id ≠ i := by show (j : Int) ≠ i; omega
  simp [this]
theorem has_cb2 {n : Nat} {i : Int} : hasC (cb n) ((i + 1) % 4) i = false := by
  unfold hasC
  rw [List.any_eq_false]
  intro c hc
  unfold cb at hc
  simp only [List.mem_map, List.mem_range] at hc
  obtain ⟨j, hj, rfl⟩ := hc
  by_cases h : (j : Int) = i
  · have : ¬ (j : Int) % 4 = (i + 1) % 4 := by omega
    simp [this]
  · have : (tm (j : Int)).id ≠ i := h
    simp [this]
theorem has_cs {n k : Nat} {who : Int} (hk : k < n) : hasC (cs n k) who ((n - 1 - k : Nat) : Int) = false := by
  unfold hasC
  rw [List.any_eq_false]
  intro c hc
  unfold cs at hc
  simp only [List.mem_map, List.mem_range] at hc
  obtain ⟨j, hj, rfl⟩ := hc
  have : (tm ((n - 1 - j : Nat) : Int)).id ≠ ((n - 1 - k : Nat) : Int) := by show ((n - 1 - j : Nat) : Int) ≠ _; omega
  simp [this]
theorem put_mk {C : List CV} {who : Int} {t : TV} {p c a : Int} (hm : mayE t p c a = 0) (hs : sideB who t = true) (hh : hasC C who t.id = false) (hl : C.length < 400) : putE p c a C who t = 0 ∧ putC p c a C who t = C ++ [⟨who, t⟩] := by
  have hp : putE p c a C who t = 0 := by
    unfold putE
    rw [if_pos hm, if_pos hs, hh, if_neg (by decide), if_neg (by omega)]
  exact ⟨hp, by unfold putC; rw [if_pos hp]⟩
theorem put_b {k : Nat} (hk : k < 101) : putE 4 2 2 (cb k) ((k : Int) % 4) (tm k) = 0 ∧ putC 4 2 2 (cb k) ((k : Int) % 4) (tm k) = cb (k + 1) := by
  rw [cb_next]
  exact put_mk (tm_may (by omega)) (by simp [sideB, tm]) (has_cb (Int.le_refl _)) (by rw [cb_len]; omega)
theorem put_s {n k : Nat} (hn : n < 101) (hk : k < n) : putE 4 2 2 (cb n ++ cs n k) (((n - 1 - k : Nat) + 1 : Int) % 4) (tm (n - 1 - k : Nat)) = 0 ∧ putC 4 2 2 (cb n ++ cs n k) (((n - 1 - k : Nat) + 1 : Int) % 4) (tm (n - 1 - k : Nat)) = cb n ++ cs n (k + 1) := by
  rw [cs_next, ← List.append_assoc]
  refine put_mk (tm_may (by omega)) (by simp [sideB, tm]) ?_ (by rw [List.length_append, cb_len, cs_len]; omega)
  have e : ∀ (l m : List CV) (w i : Int), hasC (l ++ m) w i = (hasC l w i || hasC m w i) := fun l m w i => by simp [hasC]
  rw [e]
  have h1 : hasC (cb n) (((n - 1 - k : Nat) + 1 : Int) % 4) (tm ((n - 1 - k : Nat) : Int)).id = false := has_cb2
  have h2 : hasC (cs n k) (((n - 1 - k : Nat) + 1 : Int) % 4) (tm ((n - 1 - k : Nat) : Int)).id = false := has_cs hk
  rw [h1, h2]
  rfl
end Go.Proofs.Ythhjmbbfibgjpaa.Trade
