/-
  Parts laid together: ReqPost ReqPostA ReqFew ReqRSameA ReqCText ReqCPut ReqCPutV.
-/
import Derived.Test.YtchcgoabogcabaaGreatPart10
import Derived.Test.YtchcgoabogcabaaGreatPart2
import Derived.Test.YtchcgoabogcabaaGreatPart11
import Derived.Deep.QuietTactic
import Derived.BigQuiet

namespace Go.Proofs.YtchcgoabogcabaaGreat.Req
open Go.RowKit Go.Proofs.YtchcgoabogcabaaGreat.Sha Go.Proofs.YtchcgoabogcabaaGreat.Wire

def DecBPost (b : List Int) (w : World) (x : Ending) (w' : World) : Prop :=
  ∃ e seen A n c l, x = .returned (.tuple #[.agg #[.int .i64 seen, .slice A n c], .int .i64 e]) ∧ n ≤ c ∧ c ≤ 9223372036854775807 ∧ Rr w' A n l ∧ (∀ r ∈ l, r.ok) ∧ DecB b e ⟨seen, l⟩ ∧ Below w.heap.size w w'
theorem results_row_tmp {P : Program} {fn : Func} {p u : Tmp} {ty : TypeId} (h : fn.results = #[.cell p ty, .tmp u]) (tmps : Array Value) (w : World) (g : Nat) (t : TypeId) (cs : Array Value) (fr : Nat × Nat) (d : TypeDesc)
    (hp : tmps.getD p undef = .pointer (some ⟨g, 0, none⟩)) (hg : w.heap[g]? = some (.cells cs t fr))
    (hu : P.underlying ty = some d) (hd : (match d with | .struct _ | .array _ _ => true | _ => false) = true) (hi : (P.info? ty).map (·.size) = some cs.size) :
    (results fn tmps).run P w = .ok (.tuple #[.agg cs, tmps.getD u undef]) w := by
  have hp' : tmps[p]?.getD undef = .pointer (some ⟨g, 0, none⟩) := by simpa using hp
  simp [results, h, hp', asAddr, run_loadVar_row w g t ty cs fr d hg hu hd hi, Result.andThen]
theorem batch_size : (Tryz.prog.info? 53).map (·.size) = some 2 := by kernel_rfl
theorem many_stop {α : Type} (g : St → α × St) (k : Nat) {st : St} (h : (many g k st).2.1 ≠ 0) : ∀ j, many g (k + j) st = many g k st
  | 0 => rfl
  | j + 1 => by
    have e := many_stop g k h j
    rw [← Nat.add_assoc, many_snoc, e, if_neg h]
theorem many_len {α : Type} (g : St → α × St) : ∀ (k : Nat) (st : St), (many g k st).1.length ≤ k
  | 0, _ => Nat.le_refl _
  | k + 1, st => by
    rw [many]
    split
    · have := many_len g k (g st).2
      simp only [List.length_cons]; omega
    · simp
theorem many_next {α : Type} (g : St → α × St) {k : Nat} {st : St} (h : (many g k st).2.1 = 0) : many g (k + 1) st = ((many g k st).1 ++ [(g (many g k st).2).1], (g (many g k st).2).2) := by
  rw [many_snoc, if_pos h]
theorem decNum_size0 (st : St) (hb : Bytes st.2) : 0 ≤ (decNum st 1).1 ∧ (decNum st 1).1 ≤ 255 := by
  unfold decNum
  split
  · split
    · split
      · rename_i h
        have h1 := val_take_lt st.2 hb 1 (by have := h.1; simpa using this)
        constructor
        · exact Int.natCast_nonneg _
        · have e : (Int.toNat 1) = 1 := rfl
          simp only [e]; omega
      · simp
    · simp
  · simp
theorem getR_left (st : St) : (getR st).2.2.length ≤ st.2.length := by
  have hn := fun (t : St) (s : Int) => (show (decNum t s).2.2.length ≤ t.2.length by
    unfold decNum
    split
    · split
      · split
        · simp
        · simp
      · simp
    · simp)
  have hw := fun (t : St) => (show (rawD t 32).2.2.length ≤ t.2.length by
    unfold rawD
    split
    · split
      · simp
      · simp
    · simp)
  unfold getR
  simp only
  have g1 : ∀ (p : Prop) [Decidable p] (t : St) (s : Int), (if p then decNum t s else (0, t)).2.2.length ≤ t.2.length := fun p _ t s => by
    split
    · exact hn t s
    · exact Nat.le_refl _
  have g2 : ∀ (p : Prop) [Decidable p] (t : St), (if p then rawD t 32 else ([], t)).2.2.length ≤ t.2.length := fun p _ t => by
    split
    · exact hw t
    · exact Nat.le_refl _
  exact Nat.le_trans (g2 _ _) (Nat.le_trans (g1 _ _ _) (Nat.le_trans (g1 _ _ _) (Nat.le_trans (g2 _ _) (Nat.le_trans (g1 _ _ _) (Nat.le_trans (g1 _ _ _) (Nat.le_trans (g1 _ _ _) (hn st 1)))))))
theorem many_left_of {α : Type} {g : St → α × St} (h : ∀ st, (g st).2.2.length ≤ st.2.length) : ∀ (k : Nat) (st : St), (many g k st).2.2.length ≤ st.2.length
  | 0, _ => Nat.le_refl _
  | k + 1, st => by
    rw [many]
    split
    · exact Nat.le_trans (many_left_of h k _) (h st)
    · exact Nat.le_refl _
theorem many_left (k : Nat) (st : St) : (many getR k st).2.2.length ≤ st.2.length := many_left_of getR_left k st
end Go.Proofs.YtchcgoabogcabaaGreat.Req

namespace Go.Proofs.YtchcgoabogcabaaGreat.Req
open Go.RowKit Go.Proofs.YtchcgoabogcabaaGreat.Sha Go.Proofs.YtchcgoabogcabaaGreat.Wire

def EncPost (r : Int × List Int) (w : World) (x : Ending) (w' : World) : Prop := ∃ A n c, x = .returned (.tuple #[.slice A n c, .int .i64 r.1]) ∧ n ≤ c ∧ c ≤ 9223372036854775807 ∧ Rd w' A n r.2 ∧ Below w.heap.size w w'
def SamePost (p : Prop) (w : World) (e : Ending) (w' : World) : Prop := ∃ q : Bool, e = .returned (.bool q) ∧ (q = true ↔ p) ∧ Below w.heap.size w w'
def DecAPost (b : List Int) (w : World) (x : Ending) (w' : World) : Prop :=
  ∃ e clock seen A n c l D m d v, x = .returned (.tuple #[.agg #[.int .i64 clock, .int .i64 seen, .slice A n c, .slice D m d], .int .i64 e]) ∧ n ≤ c ∧ c ≤ 9223372036854775807 ∧ m ≤ d ∧ d ≤ 9223372036854775807 ∧ Rp w' A n l ∧ Rv w' D m v ∧ (∀ r ∈ v, r.ok) ∧ DecA b e ⟨clock, seen, l, v⟩ ∧ Below w.heap.size w w'
/-- their texts are not long -/
def RV.small (r : RV) : Prop := r.hash.length ≤ 20000 ∧ r.sec.length ≤ 20000
def VV.small (r : VV) : Prop := r.hash.length ≤ 20000 ∧ r.sec.length ≤ 20000
theorem MayR.small {r : RV} (h : MayR r) : r.small := by
  rcases h with ⟨-, -, -, -, -, -, h1, h2⟩ | ⟨-, -, -, -, -, -, h1, h2⟩ | ⟨-, -, -, -, -, -, h1, h2⟩ | ⟨-, -, -, -, -, -, h1, h2⟩ <;> constructor <;> simp [h1, h2]
theorem MayV.small {r : VV} (h : MayV r) : r.small := by
  rcases h with ⟨-, -, -, -, -, -, -, h1, h2⟩ | ⟨-, -, -, -, -, -, -, h1, h2⟩ | ⟨-, -, -, -, -, -, -, h1, h2⟩ | ⟨-, -, -, -, -, -, -, h1, h2⟩ <;> constructor <;> simp [h1, h2]
end Go.Proofs.YtchcgoabogcabaaGreat.Req

namespace Go.Proofs.YtchcgoabogcabaaGreat.Req
open Go.RowKit Go.Proofs.YtchcgoabogcabaaGreat.Sha Go.Proofs.YtchcgoabogcabaaGreat.Wire

/-- of a Few: where it says yes, there are at most m, and their texts are short -/
def FewPost (p : Prop) (w : World) (e : Ending) (w' : World) : Prop := ∃ t : Bool, e = .returned (.bool t) ∧ (t = true → p) ∧ Below w.heap.size w w'
theorem all_snoc' {α : Type} {p : α → Prop} {l : List α} {k : Nat} {x : α} (h : l[k]? = some x) (ha : ∀ r ∈ l.take k, p r) (hx : p x) : ∀ r ∈ l.take (k + 1), p r := by
  obtain ⟨hk, rfl⟩ := List.getElem?_eq_some_iff.1 h
  rw [List.take_succ_eq_append_getElem hk]
  intro r hr
  rcases List.mem_append.1 hr with h1 | h1
  · exact ha r h1
  · rw [List.mem_singleton] at h1; subst h1; exact hx
theorem flat_snoc' {α : Type} {f : α → List Int} {l : List α} {k : Nat} {x : α} (h : l[k]? = some x) : (l.take (k + 1)).flatMap f = (l.take k).flatMap f ++ f x := by
  obtain ⟨hk, rfl⟩ := List.getElem?_eq_some_iff.1 h
  rw [List.take_succ_eq_append_getElem hk, List.flatMap_append, List.flatMap_cons, List.flatMap_nil, List.append_nil]
theorem min_as (l : Nat) : ∃ m : Nat, min (l : Int) 20001 = m ∧ m ≤ 20001 ∧ (m ≤ 20000 → l ≤ 20000) := by
  by_cases h : l ≤ 20001
  · exact ⟨l, by omega, by omega, by omega⟩
  · exact ⟨20001, by omega, by omega, by omega⟩
set_option maxRecDepth 100000 in
set_option maxHeartbeats 2000000 in
theorem few_any (seen : Int) (A : Option Addr) (n c : Nat) (l : List RV) (w : World) (hr : Rr w A n l) (hc : n ≤ 9223372036854775807) : Calls Tryz.prog 23 #[.agg #[.int .i64 seen, .slice A n c]] w (FewPost (n ≤ 100 ∧ ∀ r ∈ l, r.small) w) := by
  have HR := Kept.mk hr
  have LN := Kept.mk hr.1
  obtain ⟨Q, hQ⟩ : ∃ Q : Prop, (n ≤ 100 ∧ ∀ r ∈ l, r.small) = Q := ⟨_, rfl⟩
  rw [hQ]
  have HQ := Kept.mk hQ
  obtain ⟨N, hN⟩ : ∃ N, w.heap.size = N := ⟨_, rfl⟩
  have X : Kept (Blk (w.alloc (.cells #[.int .i64 seen, .slice A n c] 53)) N 53 #[.int .i64 seen, .slice A n c]) := ⟨Blk.new_at w _ _ N hN.symm⟩
  have B : Kept (Below w.heap.size w (w.alloc (.cells #[.int .i64 seen, .slice A n c] 53))) := ⟨(Below.refl _ _).alloc (Nat.le_refl _) _⟩
  clear hr hQ
  go_enter Tryz.func23, Tryz.ntmps23
  go_upto_region 1 with (fail)
  generalize w.alloc (.cells #[.int .i64 seen, .slice A n c] 53) = w1 at *
  go_wp2
  go_loopw [3, 4] (fun s i wr => ∃ k z : Nat, k ≤ n ∧ k ≤ 100 ∧ z ≤ 40002 * k ∧ s = .int .i64 z ∧ i = .int .i64 k ∧ Kept (z ≤ 20000 → ∀ r ∈ l.take k, r.small) ∧ Kept (Blk wr N 53 #[.int .i64 seen, .slice A n c]) ∧ Kept (Below w.heap.size w wr)) (fun _ i _ => n - (Go.RowKit.intOf i).toNat)
  case atStart => exact ⟨0, 0, by omega, by omega, by omega, rfl, rfl, ⟨by simp⟩, X, B⟩
  case round =>
    clear X B
    obtain ⟨k, z, hk, hk2, hz, rfl, rfl, HS, X, B⟩ := hrel
    have x1 := X.out.cell 1
    by_cases hkn : k < n
    · have hkn' : (k : Int) < n := by omega
      by_cases hk3 : k < 100
      · have hk3' : (k : Int) < 100 := by omega
        obtain ⟨b, o, r, rfl, hx, hcell⟩ := (HR.out.below B.out).at_ hkn
        obtain ⟨m1, h1, h2, h3⟩ := min_as (strOfNums r.hash).size
        obtain ⟨m2, h4, h5, h6⟩ := min_as (strOfNums r.sec).size
        rw [strOfNums_size] at h3 h6
        have HS2 : Kept (z + m1 + m2 ≤ 20000 → ∀ r ∈ l.take (k + 1), r.small) := ⟨fun h => all_snoc' hx (HS.out (by omega)) ⟨h3 (by omega), h6 (by omega)⟩⟩
        have y6 := hcell 6 _ rfl; have y7 := hcell 7 _ rfl
        have e1 : IntKind.i64.wrap ((z : Int) + m1) = (z : Int) + m1 := by rw [IntKind.wrap_i64]; omega
        have e2 : IntKind.i64.wrap ((z : Int) + m1 + m2) = (z : Int) + m1 + m2 := by rw [IntKind.wrap_i64]; omega
        clear hcell hx h3 h6
        generalize strOfNums r.hash = S1 at *
        generalize strOfNums r.sec = S2 at *
        go_upto_region 5 with (fail)
        go_quiet (fail)
        generalize hd : wr.drewN nq = wd at *
        have BD : Below wr.heap.size wr wd := hd ▸ below_drewN (Below.refl _ _) nq
        replace B := Kept.mk (B.out.trans (BD.mono B.out.size)); replace X := Kept.mk (X.out.below BD X.out.lt)
        clear BD hd y6 y7 x1
        go_wp2
        go_roundw
        case rel => exact ⟨k + 1, z + m1 + m2, by omega, by omega, by omega, by go_num, by go_num, HS2, X, B⟩
        case measure => simp [Go.RowKit.intOf]; omega
      · obtain rfl : k = 100 := by omega
        have hk3' : ¬ ((100 : Nat) : Int) < 100 := by omega
        have hn2 : ¬ (n : Int) ≤ 100 := by omega
        go_wp2
        go_ret
        exact ⟨_, rfl, by simp, B.out⟩
    · have hkn' : ¬ (k : Int) < n := by omega
      obtain rfl : k = n := by omega
      have hk3 : (k : Int) ≤ 100 := by omega
      by_cases hz2 : z ≤ 20000
      · have hz3 : (z : Int) ≤ 20000 := by omega
        have YES : Kept Q := ⟨by
          rw [← HQ.out]
          have := HS.out hz2
          rw [List.take_of_length_le (Nat.le_of_eq LN.out)] at this
          exact ⟨by omega, this⟩⟩
        go_wp2
        go_ret
        exact ⟨true, rfl, fun _ => YES.out, B.out⟩
      · have hz3 : ¬ (z : Int) ≤ 20000 := by omega
        go_wp2
        go_ret
        exact ⟨_, rfl, by simp, B.out⟩
end Go.Proofs.YtchcgoabogcabaaGreat.Req

namespace Go.Proofs.YtchcgoabogcabaaGreat.Req
open Go.RowKit Go.Proofs.YtchcgoabogcabaaGreat.Sha Go.Proofs.YtchcgoabogcabaaGreat.Wire

set_option maxRecDepth 100000 in
set_option maxHeartbeats 4000000 in
theorem rsameev_any (A1 : Option Addr) (n1 c1 : Nat) (l1 : List VV) (A2 : Option Addr) (n2 c2 : Nat) (l2 : List VV) (w : World) (h1 : Rv w A1 n1 l1) (h2 : Rv w A2 n2 l2) (hm : n1 ≤ 9223372036854775807) (o1 : ∀ r ∈ l1, r.ok) (o2 : ∀ r ∈ l2, r.ok) :
    Calls Tryz.prog 11 #[.slice A1 n1 c1, .slice A2 n2 c2] w (SamePost (l1 = l2) w) := by
  have H1 := Kept.mk h1; have H2 := Kept.mk h2; have O1 := Kept.mk o1; have O2 := Kept.mk o2
  have L1 := Kept.mk h1.1; have L2 := Kept.mk h2.1
  generalize hP : (l1 = l2) = P
  have HP := Kept.mk hP
  have B := Kept.mk (Below.refl w.heap.size w)
  clear h1 h2 o1 o2 hP
  by_cases hn : n1 = n2
  · subst hn
    go_enter Tryz.func11, Tryz.ntmps11
    go_wp2
    have TK : Kept (l1.take 0 = l2.take 0) := ⟨by simp⟩
    go_loopw [5] (fun i wr => ∃ k : Nat, k ≤ n1 ∧ i = .int .i64 k ∧ Kept (l1.take k = l2.take k) ∧ Kept (Below w.heap.size w wr)) (fun i _ => n1 - (Go.RowKit.intOf i).toNat)
    case atStart => exact ⟨0, by omega, rfl, TK, B⟩
    case round =>
      clear TK B
      obtain ⟨k, hk, rfl, TK, B⟩ := hrel
      by_cases hkn : k < n1
      · have hkn' : (k : Int) < n1 := by omega
        obtain ⟨b1, o1, r1, rfl, hx1, hc1⟩ := (H1.out.below B.out).at_ hkn
        obtain ⟨b2, o2, r2, rfl, hx2, hc2⟩ := (H2.out.below B.out).at_ hkn
        have NE := fun w => ev_neq r1 r2 (O1.out r1 (List.mem_of_getElem? hx1)) (O2.out r2 (List.mem_of_getElem? hx2)) w
        obtain ⟨q, hq⟩ : ∃ q, sameV r1 r2 = q := ⟨_, rfl⟩
        rw [hq] at NE
        have X1 := Kept.mk hx1; have X2 := Kept.mk hx2; have HQ := Kept.mk hq
        obtain ⟨p0, p1, p2, p3, p4, p5, p6, p7, p8⟩ := r1
        obtain ⟨q0, q1, q2, q3, q4, q5, q6, q7, q8⟩ := r2
        have u0 := hc1 0 _ rfl; have u1 := hc1 1 _ rfl; have u2 := hc1 2 _ rfl; have u3 := hc1 3 _ rfl; have u4 := hc1 4 _ rfl; have u5 := hc1 5 _ rfl; have u6 := hc1 6 _ rfl; have u7 := hc1 7 _ rfl; have u8 := hc1 8 _ rfl
        have v0 := hc2 0 _ rfl; have v1 := hc2 1 _ rfl; have v2 := hc2 2 _ rfl; have v3 := hc2 3 _ rfl; have v4 := hc2 4 _ rfl; have v5 := hc2 5 _ rfl; have v6 := hc2 6 _ rfl; have v7 := hc2 7 _ rfl; have v8 := hc2 8 _ rfl
        rw [Nat.add_zero] at u0 v0
        dsimp only at u0 v0 u1 v1 u2 v2 u3 v3 u4 v4 u5 v5 u6 v6 u7 v7 u8 v8
        unfold vqv at NE
        dsimp only at NE
        clear hc1 hc2 hx1 hx2 hq
        go_upto_region 6 with (fail)
        go_quiet (fail)
        generalize hd : wr.drewN nq = wd at *
        have BD : Below wr.heap.size wr wd := hd ▸ below_drewN (Below.refl _ _) nq
        replace B := Kept.mk (B.out.trans (BD.mono B.out.size))
        clear BD hd u0 v0 u1 v1 u2 v2 u3 v3 u4 v4 u5 v5 u6 v6 u7 v7 u8 v8
        cases q with
        | true =>
          have TK2 : Kept (l1.take (k + 1) = l2.take (k + 1)) := ⟨take_next X1.out X2.out TK.out (sameV_iff.1 HQ.out)⟩
          go_wp2
          go_roundw
          case rel => exact ⟨k + 1, by omega, by go_num, TK2, B⟩
          case measure => simp [Go.RowKit.intOf]; omega
        | false =>
          have hne : ¬ l1 = l2 := fun h => by
            have a := X1.out
            rw [h, X2.out] at a
            injection a with a
            have := sameV_iff.2 a.symm
            rw [HQ.out] at this
            cases this
          have NO := Kept.mk (fun h : P => by rw [← HP.out] at h; exact hne h)
          clear hne
          go_wp2
          go_ret
          exact ⟨false, rfl, ⟨fun h => (by cases h), fun h => (NO.out h).elim⟩, B.out⟩
      · have hkn' : ¬ (k : Int) < n1 := by omega
        obtain rfl : k = n1 := by omega
        have hall : l1 = l2 := by
          have := TK.out
          rwa [List.take_of_length_le (Nat.le_of_eq H1.out.1), List.take_of_length_le (Nat.le_of_eq H2.out.1)] at this
        have YES : Kept P := ⟨by rw [← HP.out]; exact hall⟩
        clear hall
        go_wp2
        go_ret
        exact ⟨true, rfl, ⟨fun _ => YES.out, fun _ => rfl⟩, B.out⟩
  · have hn2 : ((n1 : Int) != n2) = true := by
      rw [bne_iff_ne]; omega
    have NO := Kept.mk (fun h : P => by
      rw [← HP.out] at h
      exact hn (by rw [← L1.out, ← L2.out, h]))
    go_enter Tryz.func11, Tryz.ntmps11
    go_wp2
    go_ret
    exact ⟨false, rfl, ⟨fun h => (by cases h), fun h => (NO.out h).elim⟩, B.out⟩
set_option maxRecDepth 100000 in
set_option maxHeartbeats 4000000 in
theorem rsamea_any (t1 s1 : Int) (A1 : Option Addr) (n1 c1 : Nat) (l1 : List PV) (D1 : Option Addr) (m1 e1 : Nat) (v1 : List VV) (t2 s2 : Int) (A2 : Option Addr) (n2 c2 : Nat) (l2 : List PV) (D2 : Option Addr) (m2 e2 : Nat) (v2 : List VV) (w : World)
    (h1 : Rp w A1 n1 l1) (h2 : Rp w A2 n2 l2) (g1 : Rv w D1 m1 v1) (g2 : Rv w D2 m2 v2) (hm : n1 ≤ 9223372036854775807) (hm2 : m1 ≤ 9223372036854775807) (o1 : ∀ r ∈ v1, r.ok) (o2 : ∀ r ∈ v2, r.ok) :
    Calls Tryz.prog 18 #[.agg #[.int .i64 t1, .int .i64 s1, .slice A1 n1 c1, .slice D1 m1 e1], .agg #[.int .i64 t2, .int .i64 s2, .slice A2 n2 c2, .slice D2 m2 e2]] w (SamePost ((⟨t1, s1, l1, v1⟩ : AV) = ⟨t2, s2, l2, v2⟩) w) := by
  have H1 := Kept.mk h1; have H2 := Kept.mk h2; have G1 := Kept.mk g1; have G2 := Kept.mk g2; have O1 := Kept.mk o1; have O2 := Kept.mk o2
  have L1 := Kept.mk h1.1; have L2 := Kept.mk h2.1
  generalize hP : ((⟨t1, s1, l1, v1⟩ : AV) = ⟨t2, s2, l2, v2⟩) = P
  have HP := Kept.mk hP
  obtain ⟨N, hN⟩ : ∃ N, w.heap.size = N := ⟨_, rfl⟩
  have X : Kept (Blk ((w.alloc (.cells #[.int .i64 t1, .int .i64 s1, .slice A1 n1 c1, .slice D1 m1 e1] 59)).alloc (.cells #[.int .i64 t2, .int .i64 s2, .slice A2 n2 c2, .slice D2 m2 e2] 59)) N 59 #[.int .i64 t1, .int .i64 s1, .slice A1 n1 c1, .slice D1 m1 e1]) := ⟨(Blk.new_at w _ _ N hN.symm).alloc _⟩
  have Y : Kept (Blk ((w.alloc (.cells #[.int .i64 t1, .int .i64 s1, .slice A1 n1 c1, .slice D1 m1 e1] 59)).alloc (.cells #[.int .i64 t2, .int .i64 s2, .slice A2 n2 c2, .slice D2 m2 e2] 59)) (N + 1) 59 #[.int .i64 t2, .int .i64 s2, .slice A2 n2 c2, .slice D2 m2 e2]) := ⟨Blk.new_at _ _ _ (N + 1) (by simp [hN])⟩
  have B : Kept (Below w.heap.size w ((w.alloc (.cells #[.int .i64 t1, .int .i64 s1, .slice A1 n1 c1, .slice D1 m1 e1] 59)).alloc (.cells #[.int .i64 t2, .int .i64 s2, .slice A2 n2 c2, .slice D2 m2 e2] 59))) := ⟨((Below.refl _ _).alloc (Nat.le_refl _) _).alloc (by simp) _⟩
  clear h1 h2 g1 g2 o1 o2 hP
  go_enter Tryz.func18, Tryz.ntmps18
  go_upto_region 1 with (fail)
  generalize ((w.alloc (.cells #[.int .i64 t1, .int .i64 s1, .slice A1 n1 c1, .slice D1 m1 e1] 59)).alloc (.cells #[.int .i64 t2, .int .i64 s2, .slice A2 n2 c2, .slice D2 m2 e2] 59)) = w1 at *
  have x0 := X.out.cell 0; have x1 := X.out.cell 1; have x2 := X.out.cell 2; have y0 := Y.out.cell 0; have y1 := Y.out.cell 1; have y2 := Y.out.cell 2
  by_cases ht : t1 = t2
  · subst ht
    by_cases hs : s1 = s2
    · subst hs
      by_cases hn : n1 = n2
      · subst hn
        go_wp2
        clear x0 x1 x2 y0 y1 y2
        have TK : Kept (l1.take 0 = l2.take 0) := ⟨by simp⟩
        go_loopw [5] (fun i wr => ∃ k : Nat, k ≤ n1 ∧ i = .int .i64 k ∧ Kept (l1.take k = l2.take k) ∧ Kept (Blk wr N 59 #[.int .i64 t1, .int .i64 s1, .slice A1 n1 c1, .slice D1 m1 e1]) ∧ Kept (Blk wr (N + 1) 59 #[.int .i64 t1, .int .i64 s1, .slice A2 n1 c2, .slice D2 m2 e2]) ∧ Kept (Below w.heap.size w wr)) (fun i _ => n1 - (Go.RowKit.intOf i).toNat)
        case atStart => exact ⟨0, by omega, rfl, TK, X, Y, B⟩
        case round =>
          clear TK X Y B
          obtain ⟨k, hk, rfl, TK, X, Y, B⟩ := hrel
          have x2 := X.out.cell 2; have x3 := X.out.cell 3
          have y2 := Y.out.cell 2; have y3 := Y.out.cell 3
          by_cases hkn : k < n1
          · have hkn' : (k : Int) < n1 := by omega
            obtain ⟨b1, o1, r1, rfl, hx1, hc1⟩ := (H1.out.below B.out).at_ hkn
            obtain ⟨b2, o2, r2, rfl, hx2, hc2⟩ := (H2.out.below B.out).at_ hkn
            have NE := fun w => rep_neq r1 r2 w
            obtain ⟨q, hq⟩ : ∃ q, sameP r1 r2 = q := ⟨_, rfl⟩
            rw [hq] at NE
            have X1 := Kept.mk hx1; have X2 := Kept.mk hx2; have HQ := Kept.mk hq
            obtain ⟨p0, p1⟩ := r1
            obtain ⟨q0, q1⟩ := r2
            have u0 := hc1 0 _ rfl; have u1 := hc1 1 _ rfl
            have v0 := hc2 0 _ rfl; have v1 := hc2 1 _ rfl
            rw [Nat.add_zero] at u0 v0
            dsimp only at u0 v0 u1 v1
            unfold pqv at NE
            dsimp only at NE
            clear hc1 hc2 hx1 hx2 hq
            go_upto_region 6 with (fail)
            go_quiet (fail)
            generalize hd : wr.drewN nq = wd at *
            have BD : Below wr.heap.size wr wd := hd ▸ below_drewN (Below.refl _ _) nq
            replace B := Kept.mk (B.out.trans (BD.mono B.out.size))
            replace X := Kept.mk (X.out.below BD X.out.lt)
            replace Y := Kept.mk (Y.out.below BD Y.out.lt)
            clear BD hd u0 v0 u1 v1
            cases q with
            | true =>
              have TK2 : Kept (l1.take (k + 1) = l2.take (k + 1)) := ⟨take_next X1.out X2.out TK.out (sameP_iff.1 HQ.out)⟩
              go_wp2
              go_roundw
              case rel => exact ⟨k + 1, by omega, by go_num, TK2, X, Y, B⟩
              case measure => simp [Go.RowKit.intOf]; omega
            | false =>
              have hne : ¬ l1 = l2 := fun h => by
                have a := X1.out
                rw [h, X2.out] at a
                injection a with a
                have := sameP_iff.2 a.symm
                rw [HQ.out] at this
                cases this
              have NO := Kept.mk (fun h : P => by rw [← HP.out] at h; exact hne (by injection h))
              clear hne
              go_wp2
              go_ret
              exact ⟨false, rfl, ⟨fun h => (by cases h), fun h => (NO.out h).elim⟩, B.out⟩
          · have hkn' : ¬ (k : Int) < n1 := by omega
            obtain rfl : k = n1 := by omega
            have hall : l1 = l2 := by
              have := TK.out
              rwa [List.take_of_length_le (Nat.le_of_eq H1.out.1), List.take_of_length_le (Nat.le_of_eq H2.out.1)] at this
            have KS := rsameev_any D1 m1 e1 v1 D2 m2 e2 v2 wr (G1.out.below B.out) (G2.out.below B.out) hm2 O1.out O2.out
            have HA := Kept.mk hall
            unfold SamePost at KS
            have KS2 := Kept.mk KS
            clear hall KS
            go_wp2_with fail
            refine KS2.out.mono ?_
            rintro e w9 ⟨q, rfl, hq, b9⟩
            replace B := Kept.mk (B.out.trans (b9.mono B.out.size))
            have HQ : Kept (q = true ↔ P) := ⟨by rw [← HP.out, hq, HA.out]; exact ⟨fun h => by rw [h], fun h => by injection h⟩⟩
            clear hq b9 KS2
            go_wp2
            go_ret
            exact ⟨q, rfl, HQ.out, B.out⟩
      · have hn2 : ((n1 : Int) != n2) = true := by
          rw [bne_iff_ne]; omega
        have NO := Kept.mk (fun h : P => by
          rw [← HP.out] at h
          have e : l1 = l2 := by injection h
          exact hn (by rw [← L1.out, ← L2.out, e]))
        go_wp2
        go_ret
        exact ⟨false, rfl, ⟨fun h => (by cases h), fun h => (NO.out h).elim⟩, B.out⟩
    · have hs2 : (s1 != s2) = true := by
        rw [bne_iff_ne]; exact hs
      have NO := Kept.mk (fun h : P => by
        rw [← HP.out] at h
        exact hs (by injection h))
      go_wp2
      go_ret
      exact ⟨false, rfl, ⟨fun h => (by cases h), fun h => (NO.out h).elim⟩, B.out⟩
  · have ht2 : (t1 != t2) = true := by
      rw [bne_iff_ne]; exact ht
    have NO := Kept.mk (fun h : P => by
      rw [← HP.out] at h
      exact ht (by injection h))
    go_wp2
    go_ret
    exact ⟨false, rfl, ⟨fun h => (by cases h), fun h => (NO.out h).elim⟩, B.out⟩
end Go.Proofs.YtchcgoabogcabaaGreat.Req

namespace Go.Proofs.YtchcgoabogcabaaGreat.Req
open Go.RowKit Go.Proofs.YtchcgoabogcabaaGreat.Sha Go.Proofs.YtchcgoabogcabaaGreat.Wire

set_option maxRecDepth 100000 in
set_option maxHeartbeats 1000000 in
theorem putmove_any {w : World} {F : List Nat} {e : Nat} (a b c : Int) {st : St} (h : En 143 w F e st) (hl : st.2.length ≤ 1000000000) : Calls Tryz.prog 115 #[.pointer (some ⟨e, 0, none⟩), .int .i64 a, .int .i64 b, .int .i64 c] w fun x w' => x = .returned (.tuple #[]) ∧ ∃ F', En 143 w' F' e (wMove st a b c) ∧ Fp F F' w w' := by
  have l1 := encNum_len st a 1
  have l2 := encNum_len (encNum st a 1) b 1
  have KC := num_any w F e a 1 st h (by omega)
  clear h
  go_enter Tryz.func115, Tryz.ntmps115
  go_wp2_with fail
  refine KC.mono ?_
  rintro x w1 ⟨rfl, F1, he, fp⟩
  have FP := Kept.mk fp
  have KC2 := num_any w1 F1 e b 1 _ he (by omega)
  clear he fp KC
  go_wp2_with fail
  refine KC2.mono ?_
  rintro x w2 ⟨rfl, F2, he, fp⟩
  replace FP := Kept.mk (FP.out.trans fp)
  have KC := num_any w2 F2 e c 8 _ he (by omega)
  clear he fp KC2
  go_wp2_with fail
  refine KC.mono ?_
  rintro x w3 ⟨rfl, F3, he, fp⟩
  replace FP := Kept.mk (FP.out.trans fp)
  have HE := Kept.mk he
  clear he fp KC
  go_wp2
  go_end0
  exact ⟨rfl, F3, HE.out, FP.out⟩
set_option maxRecDepth 100000 in
set_option maxHeartbeats 1000000 in
theorem puttext_any {w : World} {F : List Nat} {e : Nat} (b : List Int) (hb : Bytes b) (hbl : b.length ≤ 100000) {st : St} (h : En 143 w F e st) (hl : st.2.length ≤ 1000000000) : Calls Tryz.prog 116 #[.pointer (some ⟨e, 0, none⟩), .string (strOfNums b)] w fun x w' => x = .returned (.tuple #[]) ∧ ∃ F', En 143 w' F' e (wText st b) ∧ Fp F F' w w' := by
  obtain ⟨w1, c, hcv, r1, b1⟩ := to_bytes w b hb
  have HE : Kept (En 143 w1 F e (wText st (b.take 0))) := ⟨by rw [List.take_zero, wText, wr_nil]; exact h.below b1⟩
  have FP : Kept (Fp F F w w1) := ⟨⟨barOf b1 F, fun _ hk => .inl hk⟩⟩
  obtain ⟨M, hM⟩ : ∃ M, w.heap.size = M := ⟨_, rfl⟩
  rw [hM] at hcv r1
  have OF : Kept (Off (some ⟨M, 0, none⟩) b.length F) := ⟨.inr ⟨M, 0, rfl, fun hm => by have := h.lt M hm; omega⟩⟩
  have R := Kept.mk r1
  have LB := Kept.mk (show ∀ k, k ≤ b.length → (wText st (b.take k)).2.length ≤ 1000100000 from fun k hk => by
    have := wr_len st True (b.take k)
    rw [List.length_take] at this
    unfold wText; omega)
  have HB := Kept.mk hb
  clear r1 b1 h hb hM
  obtain ⟨n, hn⟩ : ∃ n, b.length = n := ⟨_, rfl⟩
  have HN := Kept.mk hn
  rw [hn] at hcv R OF LB hbl
  clear hn
  go_enter Tryz.func116, Tryz.ntmps116
  go_wp2
  clear hcv
  go_loopw [9] (fun i wr => ∃ (k : Nat) (F' : List Nat), k ≤ n ∧ i = .int .i64 k ∧ Kept (En 143 wr F' e (wText st (b.take k))) ∧ Kept (Fp F F' w wr) ∧ Kept (Off (some ⟨M, 0, none⟩) n F') ∧ Kept (Rd wr (some ⟨M, 0, none⟩) n b)) (fun i _ => n - (Go.RowKit.intOf i).toNat)
  case atStart => exact ⟨0, F, by omega, rfl, HE, FP, OF, R⟩
  case round =>
    clear HE FP OF R
    obtain ⟨k, F', hk, rfl, HE, FP, OF, R⟩ := hrel
    by_cases hkn : k < n
    · have hkn' : (k : Int) < n := by omega
      have hkb : k < b.length := by have := HN.out; omega
      have hc : wr.cell? ⟨M, k, none⟩ = some (.int .u8 (at_ b k)) := by
        obtain ⟨-, -, h3⟩ := R.out
        rcases h3 with h3 | ⟨g, o, hg, hc⟩
        · omega
        · have := hc k hkn
          simp only [Option.some.injEq, Addr.mk.injEq] at hg
          obtain ⟨rfl, rfl, -⟩ := hg
          simpa using this
      have hx := HB.out.at_ k
      have KC := num_any wr F' e (at_ b k) 1 _ HE.out (by have := LB.out k hk; omega)
      rw [wText_snoc _ _ _ hx, show b.take k ++ [at_ b k] = b.take (k + 1) by rw [List.take_succ_eq_append_getElem hkb]; simp [at_, hkb]] at KC
      obtain ⟨z, hz⟩ : ∃ z, at_ b k = z := ⟨_, rfl⟩
      rw [hz] at KC hc hx
      have KK := Kept.mk KC
      clear KC hz hkb
      go_wp2_with fail
      refine KK.out.mono ?_
      rintro x w2 ⟨rfl, F2, he, fp⟩
      have OF2 := Kept.mk (OF.out.step R.out fp)
      replace R := Kept.mk (R.out.far fp.1 OF.out)
      replace OF := OF2
      replace FP := Kept.mk (FP.out.trans fp)
      replace HE := Kept.mk he
      clear he fp KK OF2 hc hx
      go_wp2
      go_roundw
      case rel => exact ⟨k + 1, F2, by omega, by go_num, HE, FP, OF, R⟩
      case measure => simp [Go.RowKit.intOf]; omega
    · have hkn' : ¬ (k : Int) < n := by omega
      obtain rfl : k = n := by omega
      have hh : b.take k = b := by rw [← HN.out]; exact List.take_length
      rw [hh] at HE
      go_wp2
      go_end0
      exact ⟨rfl, F', HE.out, FP.out⟩
end Go.Proofs.YtchcgoabogcabaaGreat.Req

namespace Go.Proofs.YtchcgoabogcabaaGreat.Req
open Go.RowKit Go.Proofs.YtchcgoabogcabaaGreat.Sha Go.Proofs.YtchcgoabogcabaaGreat.Wire

theorem cnotin_step {F F' : List Nat} {w w' : World} {N : Nat} (fp : Fp F F' w w') (h : N ∉ F) (hlt : N < w.heap.size) : N ∉ F' := fun hm => by
  rcases fp.2 N hm with h1 | h1
  · exact h h1
  · omega

theorem wMove_len (st : St) (a b c : Int) : (wMove st a b c).2.length ≤ st.2.length + 24 := by
  have l1 := encNum_len st a 1
  have l2 := encNum_len (encNum st a 1) b 1
  have l3 := encNum_len (encNum (encNum st a 1) b 1) c 8
  unfold wMove; omega
theorem wText_len (st : St) (b : List Int) : (wText st b).2.length ≤ st.2.length + b.length := wr_len st True b
set_option maxRecDepth 100000 in
set_option maxHeartbeats 4000000 in
theorem cputr_any {w : World} {F : List Nat} {e : Nat} {st : St} {r : RV} (h : En 143 w F e st) (hr : r.ok) (hl : st.2.length ≤ 900000000) : Calls Tryz.prog 118 #[.pointer (some ⟨e, 0, none⟩), rqv r] w fun x w' => x = .returned (.bool (decide (HoldR r))) ∧ ∃ F', En 143 w' F' e (if HoldR r then wReq st r else st) ∧ Fp F F' w w' := by
  have KH0 := fun w => holdR_any r hr w
  have LE := encNum_len
  obtain ⟨kind, dst, asset, amount, id, due, hash, sec⟩ := r
  obtain ⟨hb1, hb2⟩ := hr
  unfold rqv at *
  dsimp only at KH0 hb1 hb2 ⊢
  have hN : w.heap.size ∉ F := fun hm => by have := h.lt _ hm; omega
  have bz : ∀ o, Below w.heap.size w (w.alloc o) := fun o => (Below.refl _ _).alloc (Nat.le_refl _) o
  have NF := Kept.mk hN
  have HE0 := Kept.mk (fun o => h.below (bz o))
  have FP0 : Kept (∀ o, Fp F F w (w.alloc o)) := ⟨fun o => ⟨barOf (bz o) F, fun _ hk => .inl hk⟩⟩
  have X0 := Kept.mk (fun cs => Blk.new w 65 cs)
  obtain ⟨N, hN2⟩ : ∃ N, w.heap.size = N := ⟨_, rfl⟩
  rw [hN2] at NF X0
  clear hN bz h
  by_cases hh : HoldR ⟨kind, dst, asset, amount, id, due, hash, sec⟩
  · rw [if_pos hh, decide_eq_true hh]
    rw [decide_eq_true hh] at KH0
    rcases hh with ⟨h_kind, h_id, h_due, h_hash, h_sec⟩ | ⟨h_kind, h_id, h_due, h_hash, h_sec⟩ | ⟨h_kind, h_dst, h_asset, h_amount, h_due, h_hash, h_sec⟩ | ⟨h_kind, h_dst, h_asset, h_amount, h_due, h_hash, h_sec⟩
    · dsimp only at h_kind h_id h_due h_hash h_sec
      subst h_kind h_id h_due h_hash h_sec
      have HE := Kept.mk (HE0.out (.cells #[.int .i64 1, .int .i64 dst, .int .i64 asset, .int .i64 amount, .int .i64 0, .int .i64 0, .string (strOfNums []), .string (strOfNums [])] 65)); have FP := Kept.mk (FP0.out (.cells #[.int .i64 1, .int .i64 dst, .int .i64 asset, .int .i64 amount, .int .i64 0, .int .i64 0, .string (strOfNums []), .string (strOfNums [])] 65)); have X := Kept.mk (X0.out #[.int .i64 1, .int .i64 dst, .int .i64 asset, .int .i64 amount, .int .i64 0, .int .i64 0, .string (strOfNums []), .string (strOfNums [])])
      have KH := Kept.mk KH0
      clear KH0
      go_enter Tryz.func118, Tryz.ntmps118
      go_upto_region 1 with (fail)
      generalize w.alloc (.cells #[.int .i64 1, .int .i64 dst, .int .i64 asset, .int .i64 amount, .int .i64 0, .int .i64 0, .string (strOfNums []), .string (strOfNums [])] 65) = w0 at *
      clear HE0 FP0 X0
      have x0 := X.out.cell 0; have x1 := X.out.cell 1; have x2 := X.out.cell 2; have x3 := X.out.cell 3; have x4 := X.out.cell 4; have x5 := X.out.cell 5; have x6 := X.out.cell 6; have x7 := X.out.cell 7
      go_wp2_with fail
      refine (KH.out _).mono ?_
      rintro x w1 ⟨rfl, b1⟩
      replace X := Kept.mk (X.out.below b1 X.out.lt); replace HE := Kept.mk (HE.out.below b1); replace FP := Kept.mk (FP.out.trans (F'' := F) ⟨barOf b1 _, fun _ hk => .inl hk⟩)
      clear b1 KH x0 x1 x2 x3 x4 x5 x6 x7
      have x0 := X.out.cell 0
      have KC := num_any w1 F e 1 1 _ HE.out (by have := hl; omega)
      go_wp2_with fail
      refine KC.mono ?_
      rintro x w2 ⟨rfl, F2, he, fp⟩
      have hlt := X.out.lt
      have LB2 : Kept ((encNum st 1 1).2.length ≤ 900000000 + 8) := ⟨by
        have a1 := encNum_len st 1 1
        omega⟩
      replace X := Kept.mk (X.out.bar fp.1 NF.out); replace NF := Kept.mk (cnotin_step fp NF.out hlt); replace FP := Kept.mk (FP.out.trans fp); replace HE := Kept.mk he
      clear he fp KC hlt x0
      have x0 := X.out.cell 0; have x1 := X.out.cell 1; have x2 := X.out.cell 2; have x3 := X.out.cell 3
      have KC := putmove_any dst asset amount HE.out (by have := hl; have := LB2.out; omega)
      go_wp2_with fail
      refine KC.mono ?_
      rintro x w3 ⟨rfl, F3, he, fp⟩
      have hlt := X.out.lt
      have LB3 : Kept ((wMove (encNum st 1 1) dst asset amount).2.length ≤ 900000000 + 32) := ⟨by
        have a1 := wMove_len (encNum st 1 1) dst asset amount
        have := LB2.out; omega⟩
      replace X := Kept.mk (X.out.bar fp.1 NF.out); replace NF := Kept.mk (cnotin_step fp NF.out hlt); replace FP := Kept.mk (FP.out.trans fp); replace HE := Kept.mk he
      clear he fp KC hlt x0 x1 x2 x3
      go_wp2
      go_ret
      refine ⟨rfl, _, ?_, FP.out⟩
      rw [← wReq1 st dst asset amount]; exact HE.out
    · dsimp only at h_kind h_id h_due h_hash h_sec
      subst h_kind h_id h_sec
      have HE := Kept.mk (HE0.out (.cells #[.int .i64 2, .int .i64 dst, .int .i64 asset, .int .i64 amount, .int .i64 0, .int .i64 due, .string (strOfNums hash), .string (strOfNums [])] 65)); have FP := Kept.mk (FP0.out (.cells #[.int .i64 2, .int .i64 dst, .int .i64 asset, .int .i64 amount, .int .i64 0, .int .i64 due, .string (strOfNums hash), .string (strOfNums [])] 65)); have X := Kept.mk (X0.out #[.int .i64 2, .int .i64 dst, .int .i64 asset, .int .i64 amount, .int .i64 0, .int .i64 due, .string (strOfNums hash), .string (strOfNums [])])
      have KH := Kept.mk KH0
      clear KH0
      go_enter Tryz.func118, Tryz.ntmps118
      go_upto_region 1 with (fail)
      generalize w.alloc (.cells #[.int .i64 2, .int .i64 dst, .int .i64 asset, .int .i64 amount, .int .i64 0, .int .i64 due, .string (strOfNums hash), .string (strOfNums [])] 65) = w0 at *
      clear HE0 FP0 X0
      have x0 := X.out.cell 0; have x1 := X.out.cell 1; have x2 := X.out.cell 2; have x3 := X.out.cell 3; have x4 := X.out.cell 4; have x5 := X.out.cell 5; have x6 := X.out.cell 6; have x7 := X.out.cell 7
      go_wp2_with fail
      refine (KH.out _).mono ?_
      rintro x w1 ⟨rfl, b1⟩
      replace X := Kept.mk (X.out.below b1 X.out.lt); replace HE := Kept.mk (HE.out.below b1); replace FP := Kept.mk (FP.out.trans (F'' := F) ⟨barOf b1 _, fun _ hk => .inl hk⟩)
      clear b1 KH x0 x1 x2 x3 x4 x5 x6 x7
      have x0 := X.out.cell 0
      have KC := num_any w1 F e 2 1 _ HE.out (by have := hl; omega)
      go_wp2_with fail
      refine KC.mono ?_
      rintro x w2 ⟨rfl, F2, he, fp⟩
      have hlt := X.out.lt
      have LB2 : Kept ((encNum st 2 1).2.length ≤ 900000000 + 8) := ⟨by
        have a1 := encNum_len st 2 1
        omega⟩
      replace X := Kept.mk (X.out.bar fp.1 NF.out); replace NF := Kept.mk (cnotin_step fp NF.out hlt); replace FP := Kept.mk (FP.out.trans fp); replace HE := Kept.mk he
      clear he fp KC hlt x0
      have x0 := X.out.cell 0; have x1 := X.out.cell 1; have x2 := X.out.cell 2; have x3 := X.out.cell 3
      have KC := putmove_any dst asset amount HE.out (by have := hl; have := LB2.out; omega)
      go_wp2_with fail
      refine KC.mono ?_
      rintro x w3 ⟨rfl, F3, he, fp⟩
      have hlt := X.out.lt
      have LB3 : Kept ((wMove (encNum st 2 1) dst asset amount).2.length ≤ 900000000 + 32) := ⟨by
        have a1 := wMove_len (encNum st 2 1) dst asset amount
        have := LB2.out; omega⟩
      replace X := Kept.mk (X.out.bar fp.1 NF.out); replace NF := Kept.mk (cnotin_step fp NF.out hlt); replace FP := Kept.mk (FP.out.trans fp); replace HE := Kept.mk he
      clear he fp KC hlt x0 x1 x2 x3
      have x0 := X.out.cell 0; have x6 := X.out.cell 6
      have KC := puttext_any hash hb1 (by omega) HE.out (by have := hl; have := LB2.out; have := LB3.out; omega)
      go_wp2_with fail
      refine KC.mono ?_
      rintro x w4 ⟨rfl, F4, he, fp⟩
      have hlt := X.out.lt
      have LB4 : Kept ((wText (wMove (encNum st 2 1) dst asset amount) hash).2.length ≤ 900000000 + 64) := ⟨by
        have a1 := wText_len (wMove (encNum st 2 1) dst asset amount) hash
        have := LB3.out; omega⟩
      replace X := Kept.mk (X.out.bar fp.1 NF.out); replace NF := Kept.mk (cnotin_step fp NF.out hlt); replace FP := Kept.mk (FP.out.trans fp); replace HE := Kept.mk he
      clear he fp KC hlt x0 x6
      have x0 := X.out.cell 0; have x5 := X.out.cell 5
      have KC := num_any w4 F4 e due 8 _ HE.out (by have := hl; have := LB2.out; have := LB3.out; have := LB4.out; omega)
      go_wp2_with fail
      refine KC.mono ?_
      rintro x w5 ⟨rfl, F5, he, fp⟩
      have hlt := X.out.lt
      have LB5 : Kept ((encNum (wText (wMove (encNum st 2 1) dst asset amount) hash) due 8).2.length ≤ 900000000 + 72) := ⟨by
        have a1 := encNum_len (wText (wMove (encNum st 2 1) dst asset amount) hash) due 8
        have := LB4.out; omega⟩
      replace X := Kept.mk (X.out.bar fp.1 NF.out); replace NF := Kept.mk (cnotin_step fp NF.out hlt); replace FP := Kept.mk (FP.out.trans fp); replace HE := Kept.mk he
      clear he fp KC hlt x0 x5
      go_wp2
      go_ret
      refine ⟨rfl, _, ?_, FP.out⟩
      rw [← wReq2 st dst asset amount due hash h_due]; exact HE.out
    · dsimp only at h_kind h_dst h_asset h_amount h_due h_hash h_sec
      subst h_kind h_dst h_asset h_amount h_due h_hash
      have HE := Kept.mk (HE0.out (.cells #[.int .i64 3, .int .i64 0, .int .i64 0, .int .i64 0, .int .i64 id, .int .i64 0, .string (strOfNums []), .string (strOfNums sec)] 65)); have FP := Kept.mk (FP0.out (.cells #[.int .i64 3, .int .i64 0, .int .i64 0, .int .i64 0, .int .i64 id, .int .i64 0, .string (strOfNums []), .string (strOfNums sec)] 65)); have X := Kept.mk (X0.out #[.int .i64 3, .int .i64 0, .int .i64 0, .int .i64 0, .int .i64 id, .int .i64 0, .string (strOfNums []), .string (strOfNums sec)])
      have KH := Kept.mk KH0
      clear KH0
      go_enter Tryz.func118, Tryz.ntmps118
      go_upto_region 1 with (fail)
      generalize w.alloc (.cells #[.int .i64 3, .int .i64 0, .int .i64 0, .int .i64 0, .int .i64 id, .int .i64 0, .string (strOfNums []), .string (strOfNums sec)] 65) = w0 at *
      clear HE0 FP0 X0
      have x0 := X.out.cell 0; have x1 := X.out.cell 1; have x2 := X.out.cell 2; have x3 := X.out.cell 3; have x4 := X.out.cell 4; have x5 := X.out.cell 5; have x6 := X.out.cell 6; have x7 := X.out.cell 7
      go_wp2_with fail
      refine (KH.out _).mono ?_
      rintro x w1 ⟨rfl, b1⟩
      replace X := Kept.mk (X.out.below b1 X.out.lt); replace HE := Kept.mk (HE.out.below b1); replace FP := Kept.mk (FP.out.trans (F'' := F) ⟨barOf b1 _, fun _ hk => .inl hk⟩)
      clear b1 KH x0 x1 x2 x3 x4 x5 x6 x7
      have x0 := X.out.cell 0
      have KC := num_any w1 F e 3 1 _ HE.out (by have := hl; omega)
      go_wp2_with fail
      refine KC.mono ?_
      rintro x w2 ⟨rfl, F2, he, fp⟩
      have hlt := X.out.lt
      have LB2 : Kept ((encNum st 3 1).2.length ≤ 900000000 + 8) := ⟨by
        have a1 := encNum_len st 3 1
        omega⟩
      replace X := Kept.mk (X.out.bar fp.1 NF.out); replace NF := Kept.mk (cnotin_step fp NF.out hlt); replace FP := Kept.mk (FP.out.trans fp); replace HE := Kept.mk he
      clear he fp KC hlt x0
      have x0 := X.out.cell 0; have x4 := X.out.cell 4
      have KC := num_any w2 F2 e id 2 _ HE.out (by have := hl; have := LB2.out; omega)
      go_wp2_with fail
      refine KC.mono ?_
      rintro x w3 ⟨rfl, F3, he, fp⟩
      have hlt := X.out.lt
      have LB3 : Kept ((encNum (encNum st 3 1) id 2).2.length ≤ 900000000 + 16) := ⟨by
        have a1 := encNum_len (encNum st 3 1) id 2
        have := LB2.out; omega⟩
      replace X := Kept.mk (X.out.bar fp.1 NF.out); replace NF := Kept.mk (cnotin_step fp NF.out hlt); replace FP := Kept.mk (FP.out.trans fp); replace HE := Kept.mk he
      clear he fp KC hlt x0 x4
      have x0 := X.out.cell 0; have x7 := X.out.cell 7
      have KC := puttext_any sec hb2 (by omega) HE.out (by have := hl; have := LB2.out; have := LB3.out; omega)
      go_wp2_with fail
      refine KC.mono ?_
      rintro x w4 ⟨rfl, F4, he, fp⟩
      have hlt := X.out.lt
      have LB4 : Kept ((wText (encNum (encNum st 3 1) id 2) sec).2.length ≤ 900000000 + 48) := ⟨by
        have a1 := wText_len (encNum (encNum st 3 1) id 2) sec
        have := LB3.out; omega⟩
      replace X := Kept.mk (X.out.bar fp.1 NF.out); replace NF := Kept.mk (cnotin_step fp NF.out hlt); replace FP := Kept.mk (FP.out.trans fp); replace HE := Kept.mk he
      clear he fp KC hlt x0 x7
      go_wp2
      go_ret
      refine ⟨rfl, _, ?_, FP.out⟩
      rw [← wReq3 st id sec]; exact HE.out
    · dsimp only at h_kind h_dst h_asset h_amount h_due h_hash h_sec
      subst h_kind h_dst h_asset h_amount h_due h_hash h_sec
      have HE := Kept.mk (HE0.out (.cells #[.int .i64 4, .int .i64 0, .int .i64 0, .int .i64 0, .int .i64 id, .int .i64 0, .string (strOfNums []), .string (strOfNums [])] 65)); have FP := Kept.mk (FP0.out (.cells #[.int .i64 4, .int .i64 0, .int .i64 0, .int .i64 0, .int .i64 id, .int .i64 0, .string (strOfNums []), .string (strOfNums [])] 65)); have X := Kept.mk (X0.out #[.int .i64 4, .int .i64 0, .int .i64 0, .int .i64 0, .int .i64 id, .int .i64 0, .string (strOfNums []), .string (strOfNums [])])
      have KH := Kept.mk KH0
      clear KH0
      go_enter Tryz.func118, Tryz.ntmps118
      go_upto_region 1 with (fail)
      generalize w.alloc (.cells #[.int .i64 4, .int .i64 0, .int .i64 0, .int .i64 0, .int .i64 id, .int .i64 0, .string (strOfNums []), .string (strOfNums [])] 65) = w0 at *
      clear HE0 FP0 X0
      have x0 := X.out.cell 0; have x1 := X.out.cell 1; have x2 := X.out.cell 2; have x3 := X.out.cell 3; have x4 := X.out.cell 4; have x5 := X.out.cell 5; have x6 := X.out.cell 6; have x7 := X.out.cell 7
      go_wp2_with fail
      refine (KH.out _).mono ?_
      rintro x w1 ⟨rfl, b1⟩
      replace X := Kept.mk (X.out.below b1 X.out.lt); replace HE := Kept.mk (HE.out.below b1); replace FP := Kept.mk (FP.out.trans (F'' := F) ⟨barOf b1 _, fun _ hk => .inl hk⟩)
      clear b1 KH x0 x1 x2 x3 x4 x5 x6 x7
      have x0 := X.out.cell 0
      have KC := num_any w1 F e 4 1 _ HE.out (by have := hl; omega)
      go_wp2_with fail
      refine KC.mono ?_
      rintro x w2 ⟨rfl, F2, he, fp⟩
      have hlt := X.out.lt
      have LB2 : Kept ((encNum st 4 1).2.length ≤ 900000000 + 8) := ⟨by
        have a1 := encNum_len st 4 1
        omega⟩
      replace X := Kept.mk (X.out.bar fp.1 NF.out); replace NF := Kept.mk (cnotin_step fp NF.out hlt); replace FP := Kept.mk (FP.out.trans fp); replace HE := Kept.mk he
      clear he fp KC hlt x0
      have x0 := X.out.cell 0; have x4 := X.out.cell 4
      have KC := num_any w2 F2 e id 2 _ HE.out (by have := hl; have := LB2.out; omega)
      go_wp2_with fail
      refine KC.mono ?_
      rintro x w3 ⟨rfl, F3, he, fp⟩
      have hlt := X.out.lt
      have LB3 : Kept ((encNum (encNum st 4 1) id 2).2.length ≤ 900000000 + 16) := ⟨by
        have a1 := encNum_len (encNum st 4 1) id 2
        have := LB2.out; omega⟩
      replace X := Kept.mk (X.out.bar fp.1 NF.out); replace NF := Kept.mk (cnotin_step fp NF.out hlt); replace FP := Kept.mk (FP.out.trans fp); replace HE := Kept.mk he
      clear he fp KC hlt x0 x4
      go_wp2
      go_ret
      refine ⟨rfl, _, ?_, FP.out⟩
      rw [← wReq4 st id]; exact HE.out
  · rw [if_neg hh, decide_eq_false hh]
    rw [decide_eq_false hh] at KH0
    have HE := Kept.mk (HE0.out (.cells #[.int .i64 kind, .int .i64 dst, .int .i64 asset, .int .i64 amount, .int .i64 id, .int .i64 due, .string (strOfNums hash), .string (strOfNums sec)] 65)); have FP := Kept.mk (FP0.out (.cells #[.int .i64 kind, .int .i64 dst, .int .i64 asset, .int .i64 amount, .int .i64 id, .int .i64 due, .string (strOfNums hash), .string (strOfNums sec)] 65)); have X := Kept.mk (X0.out #[.int .i64 kind, .int .i64 dst, .int .i64 asset, .int .i64 amount, .int .i64 id, .int .i64 due, .string (strOfNums hash), .string (strOfNums sec)])
    have KH := Kept.mk KH0
    clear KH0
    go_enter Tryz.func118, Tryz.ntmps118
    go_upto_region 1 with (fail)
    generalize w.alloc (.cells #[.int .i64 kind, .int .i64 dst, .int .i64 asset, .int .i64 amount, .int .i64 id, .int .i64 due, .string (strOfNums hash), .string (strOfNums sec)] 65) = w0 at *
    clear HE0 FP0 X0
    have x0 := X.out.cell 0; have x1 := X.out.cell 1; have x2 := X.out.cell 2; have x3 := X.out.cell 3; have x4 := X.out.cell 4; have x5 := X.out.cell 5; have x6 := X.out.cell 6; have x7 := X.out.cell 7
    go_wp2_with fail
    refine (KH.out _).mono ?_
    rintro x w1 ⟨rfl, b1⟩
    replace X := Kept.mk (X.out.below b1 X.out.lt); replace HE := Kept.mk (HE.out.below b1); replace FP := Kept.mk (FP.out.trans (F'' := F) ⟨barOf b1 _, fun _ hk => .inl hk⟩)
    clear b1 KH x0 x1 x2 x3 x4 x5 x6 x7
    go_wp2
    go_ret
    exact ⟨rfl, F, HE.out, FP.out⟩
end Go.Proofs.YtchcgoabogcabaaGreat.Req

namespace Go.Proofs.YtchcgoabogcabaaGreat.Req
open Go.RowKit Go.Proofs.YtchcgoabogcabaaGreat.Sha Go.Proofs.YtchcgoabogcabaaGreat.Wire

set_option maxRecDepth 100000 in
set_option maxHeartbeats 4000000 in
theorem cputv_any {w : World} {F : List Nat} {e : Nat} {st : St} {r : VV} (h : En 143 w F e st) (hr : r.ok) (hl : st.2.length ≤ 900000000) : Calls Tryz.prog 92 #[.pointer (some ⟨e, 0, none⟩), vqv r] w fun x w' => x = .returned (.bool (decide (HoldV r))) ∧ ∃ F', En 143 w' F' e (if HoldV r then wEv st r else st) ∧ Fp F F' w w' := by
  have KH0 := fun w => holdV_any r hr w
  have LE := encNum_len
  obtain ⟨kind, src, dst, asset, amount, id, due, hash, sec⟩ := r
  obtain ⟨hb1, hb2⟩ := hr
  unfold vqv at *
  dsimp only at KH0 hb1 hb2 ⊢
  have hN : w.heap.size ∉ F := fun hm => by have := h.lt _ hm; omega
  have bz : ∀ o, Below w.heap.size w (w.alloc o) := fun o => (Below.refl _ _).alloc (Nat.le_refl _) o
  have NF := Kept.mk hN
  have HE0 := Kept.mk (fun o => h.below (bz o))
  have FP0 : Kept (∀ o, Fp F F w (w.alloc o)) := ⟨fun o => ⟨barOf (bz o) F, fun _ hk => .inl hk⟩⟩
  have X0 := Kept.mk (fun cs => Blk.new w 71 cs)
  obtain ⟨N, hN2⟩ : ∃ N, w.heap.size = N := ⟨_, rfl⟩
  rw [hN2] at NF X0
  clear hN bz h
  by_cases hh : HoldV ⟨kind, src, dst, asset, amount, id, due, hash, sec⟩
  · rw [if_pos hh, decide_eq_true hh]
    rw [decide_eq_true hh] at KH0
    rcases hh with ⟨h_kind, h_id, h_due, h_hash, h_sec⟩ | ⟨h_kind, h_due, h_hash, h_sec⟩ | ⟨h_kind, h_src, h_dst, h_asset, h_amount, h_due, h_hash, h_sec⟩ | ⟨h_kind, h_src, h_dst, h_asset, h_amount, h_due, h_hash, h_sec⟩
    · dsimp only at h_kind h_id h_due h_hash h_sec
      subst h_kind h_id h_due h_hash h_sec
      have HE := Kept.mk (HE0.out (.cells #[.int .i64 1, .int .i64 src, .int .i64 dst, .int .i64 asset, .int .i64 amount, .int .i64 0, .int .i64 0, .string (strOfNums []), .string (strOfNums [])] 71)); have FP := Kept.mk (FP0.out (.cells #[.int .i64 1, .int .i64 src, .int .i64 dst, .int .i64 asset, .int .i64 amount, .int .i64 0, .int .i64 0, .string (strOfNums []), .string (strOfNums [])] 71)); have X := Kept.mk (X0.out #[.int .i64 1, .int .i64 src, .int .i64 dst, .int .i64 asset, .int .i64 amount, .int .i64 0, .int .i64 0, .string (strOfNums []), .string (strOfNums [])])
      have KH := Kept.mk KH0
      clear KH0
      go_enter Tryz.func92, Tryz.ntmps92
      go_upto_region 1 with (fail)
      generalize w.alloc (.cells #[.int .i64 1, .int .i64 src, .int .i64 dst, .int .i64 asset, .int .i64 amount, .int .i64 0, .int .i64 0, .string (strOfNums []), .string (strOfNums [])] 71) = w0 at *
      clear HE0 FP0 X0
      have x0 := X.out.cell 0; have x1 := X.out.cell 1; have x2 := X.out.cell 2; have x3 := X.out.cell 3; have x4 := X.out.cell 4; have x5 := X.out.cell 5; have x6 := X.out.cell 6; have x7 := X.out.cell 7; have x8 := X.out.cell 8
      go_wp2_with fail
      refine (KH.out _).mono ?_
      rintro x w1 ⟨rfl, b1⟩
      replace X := Kept.mk (X.out.below b1 X.out.lt); replace HE := Kept.mk (HE.out.below b1); replace FP := Kept.mk (FP.out.trans (F'' := F) ⟨barOf b1 _, fun _ hk => .inl hk⟩)
      clear b1 KH x0 x1 x2 x3 x4 x5 x6 x7 x8
      have x0 := X.out.cell 0
      have KC := num_any w1 F e 1 1 _ HE.out (by have := hl; omega)
      go_wp2_with fail
      refine KC.mono ?_
      rintro x w2 ⟨rfl, F2, he, fp⟩
      have hlt := X.out.lt
      have LB2 : Kept ((encNum st 1 1).2.length ≤ 900000000 + 8) := ⟨by
        have a1 := encNum_len st 1 1
        omega⟩
      replace X := Kept.mk (X.out.bar fp.1 NF.out); replace NF := Kept.mk (cnotin_step fp NF.out hlt); replace FP := Kept.mk (FP.out.trans fp); replace HE := Kept.mk he
      clear he fp KC hlt x0
      have x0 := X.out.cell 0; have x1 := X.out.cell 1
      have KC := num_any w2 F2 e src 1 _ HE.out (by have := hl; have := LB2.out; omega)
      go_wp2_with fail
      refine KC.mono ?_
      rintro x w3 ⟨rfl, F3, he, fp⟩
      have hlt := X.out.lt
      have LB3 : Kept ((encNum (encNum st 1 1) src 1).2.length ≤ 900000000 + 16) := ⟨by
        have a1 := encNum_len (encNum st 1 1) src 1
        have := LB2.out; omega⟩
      replace X := Kept.mk (X.out.bar fp.1 NF.out); replace NF := Kept.mk (cnotin_step fp NF.out hlt); replace FP := Kept.mk (FP.out.trans fp); replace HE := Kept.mk he
      clear he fp KC hlt x0 x1
      have x0 := X.out.cell 0; have x2 := X.out.cell 2; have x3 := X.out.cell 3; have x4 := X.out.cell 4
      have KC := putmove_any dst asset amount HE.out (by have := hl; have := LB2.out; have := LB3.out; omega)
      go_wp2_with fail
      refine KC.mono ?_
      rintro x w4 ⟨rfl, F4, he, fp⟩
      have hlt := X.out.lt
      have LB4 : Kept ((wMove (encNum (encNum st 1 1) src 1) dst asset amount).2.length ≤ 900000000 + 40) := ⟨by
        have a1 := wMove_len (encNum (encNum st 1 1) src 1) dst asset amount
        have := LB3.out; omega⟩
      replace X := Kept.mk (X.out.bar fp.1 NF.out); replace NF := Kept.mk (cnotin_step fp NF.out hlt); replace FP := Kept.mk (FP.out.trans fp); replace HE := Kept.mk he
      clear he fp KC hlt x0 x2 x3 x4
      go_wp2
      go_ret
      refine ⟨rfl, _, ?_, FP.out⟩
      rw [← wEv1 st src dst asset amount]; exact HE.out
    · dsimp only at h_kind h_due h_hash h_sec
      subst h_kind h_sec
      have HE := Kept.mk (HE0.out (.cells #[.int .i64 2, .int .i64 src, .int .i64 dst, .int .i64 asset, .int .i64 amount, .int .i64 id, .int .i64 due, .string (strOfNums hash), .string (strOfNums [])] 71)); have FP := Kept.mk (FP0.out (.cells #[.int .i64 2, .int .i64 src, .int .i64 dst, .int .i64 asset, .int .i64 amount, .int .i64 id, .int .i64 due, .string (strOfNums hash), .string (strOfNums [])] 71)); have X := Kept.mk (X0.out #[.int .i64 2, .int .i64 src, .int .i64 dst, .int .i64 asset, .int .i64 amount, .int .i64 id, .int .i64 due, .string (strOfNums hash), .string (strOfNums [])])
      have KH := Kept.mk KH0
      clear KH0
      go_enter Tryz.func92, Tryz.ntmps92
      go_upto_region 1 with (fail)
      generalize w.alloc (.cells #[.int .i64 2, .int .i64 src, .int .i64 dst, .int .i64 asset, .int .i64 amount, .int .i64 id, .int .i64 due, .string (strOfNums hash), .string (strOfNums [])] 71) = w0 at *
      clear HE0 FP0 X0
      have x0 := X.out.cell 0; have x1 := X.out.cell 1; have x2 := X.out.cell 2; have x3 := X.out.cell 3; have x4 := X.out.cell 4; have x5 := X.out.cell 5; have x6 := X.out.cell 6; have x7 := X.out.cell 7; have x8 := X.out.cell 8
      go_wp2_with fail
      refine (KH.out _).mono ?_
      rintro x w1 ⟨rfl, b1⟩
      replace X := Kept.mk (X.out.below b1 X.out.lt); replace HE := Kept.mk (HE.out.below b1); replace FP := Kept.mk (FP.out.trans (F'' := F) ⟨barOf b1 _, fun _ hk => .inl hk⟩)
      clear b1 KH x0 x1 x2 x3 x4 x5 x6 x7 x8
      have x0 := X.out.cell 0
      have KC := num_any w1 F e 2 1 _ HE.out (by have := hl; omega)
      go_wp2_with fail
      refine KC.mono ?_
      rintro x w2 ⟨rfl, F2, he, fp⟩
      have hlt := X.out.lt
      have LB2 : Kept ((encNum st 2 1).2.length ≤ 900000000 + 8) := ⟨by
        have a1 := encNum_len st 2 1
        omega⟩
      replace X := Kept.mk (X.out.bar fp.1 NF.out); replace NF := Kept.mk (cnotin_step fp NF.out hlt); replace FP := Kept.mk (FP.out.trans fp); replace HE := Kept.mk he
      clear he fp KC hlt x0
      have x0 := X.out.cell 0; have x1 := X.out.cell 1
      have KC := num_any w2 F2 e src 1 _ HE.out (by have := hl; have := LB2.out; omega)
      go_wp2_with fail
      refine KC.mono ?_
      rintro x w3 ⟨rfl, F3, he, fp⟩
      have hlt := X.out.lt
      have LB3 : Kept ((encNum (encNum st 2 1) src 1).2.length ≤ 900000000 + 16) := ⟨by
        have a1 := encNum_len (encNum st 2 1) src 1
        have := LB2.out; omega⟩
      replace X := Kept.mk (X.out.bar fp.1 NF.out); replace NF := Kept.mk (cnotin_step fp NF.out hlt); replace FP := Kept.mk (FP.out.trans fp); replace HE := Kept.mk he
      clear he fp KC hlt x0 x1
      have x0 := X.out.cell 0; have x2 := X.out.cell 2; have x3 := X.out.cell 3; have x4 := X.out.cell 4
      have KC := putmove_any dst asset amount HE.out (by have := hl; have := LB2.out; have := LB3.out; omega)
      go_wp2_with fail
      refine KC.mono ?_
      rintro x w4 ⟨rfl, F4, he, fp⟩
      have hlt := X.out.lt
      have LB4 : Kept ((wMove (encNum (encNum st 2 1) src 1) dst asset amount).2.length ≤ 900000000 + 40) := ⟨by
        have a1 := wMove_len (encNum (encNum st 2 1) src 1) dst asset amount
        have := LB3.out; omega⟩
      replace X := Kept.mk (X.out.bar fp.1 NF.out); replace NF := Kept.mk (cnotin_step fp NF.out hlt); replace FP := Kept.mk (FP.out.trans fp); replace HE := Kept.mk he
      clear he fp KC hlt x0 x2 x3 x4
      have x0 := X.out.cell 0; have x5 := X.out.cell 5
      have KC := num_any w4 F4 e id 2 _ HE.out (by have := hl; have := LB2.out; have := LB3.out; have := LB4.out; omega)
      go_wp2_with fail
      refine KC.mono ?_
      rintro x w5 ⟨rfl, F5, he, fp⟩
      have hlt := X.out.lt
      have LB5 : Kept ((encNum (wMove (encNum (encNum st 2 1) src 1) dst asset amount) id 2).2.length ≤ 900000000 + 48) := ⟨by
        have a1 := encNum_len (wMove (encNum (encNum st 2 1) src 1) dst asset amount) id 2
        have := LB4.out; omega⟩
      replace X := Kept.mk (X.out.bar fp.1 NF.out); replace NF := Kept.mk (cnotin_step fp NF.out hlt); replace FP := Kept.mk (FP.out.trans fp); replace HE := Kept.mk he
      clear he fp KC hlt x0 x5
      have x0 := X.out.cell 0; have x7 := X.out.cell 7
      have KC := puttext_any hash hb1 (by omega) HE.out (by have := hl; have := LB2.out; have := LB3.out; have := LB4.out; have := LB5.out; omega)
      go_wp2_with fail
      refine KC.mono ?_
      rintro x w6 ⟨rfl, F6, he, fp⟩
      have hlt := X.out.lt
      have LB6 : Kept ((wText (encNum (wMove (encNum (encNum st 2 1) src 1) dst asset amount) id 2) hash).2.length ≤ 900000000 + 80) := ⟨by
        have a1 := wText_len (encNum (wMove (encNum (encNum st 2 1) src 1) dst asset amount) id 2) hash
        have := LB5.out; omega⟩
      replace X := Kept.mk (X.out.bar fp.1 NF.out); replace NF := Kept.mk (cnotin_step fp NF.out hlt); replace FP := Kept.mk (FP.out.trans fp); replace HE := Kept.mk he
      clear he fp KC hlt x0 x7
      have x0 := X.out.cell 0; have x6 := X.out.cell 6
      have KC := num_any w6 F6 e due 8 _ HE.out (by have := hl; have := LB2.out; have := LB3.out; have := LB4.out; have := LB5.out; have := LB6.out; omega)
      go_wp2_with fail
      refine KC.mono ?_
      rintro x w7 ⟨rfl, F7, he, fp⟩
      have hlt := X.out.lt
      have LB7 : Kept ((encNum (wText (encNum (wMove (encNum (encNum st 2 1) src 1) dst asset amount) id 2) hash) due 8).2.length ≤ 900000000 + 88) := ⟨by
        have a1 := encNum_len (wText (encNum (wMove (encNum (encNum st 2 1) src 1) dst asset amount) id 2) hash) due 8
        have := LB6.out; omega⟩
      replace X := Kept.mk (X.out.bar fp.1 NF.out); replace NF := Kept.mk (cnotin_step fp NF.out hlt); replace FP := Kept.mk (FP.out.trans fp); replace HE := Kept.mk he
      clear he fp KC hlt x0 x6
      go_wp2
      go_ret
      refine ⟨rfl, _, ?_, FP.out⟩
      rw [← wEv2 st src dst asset amount id due hash h_due]; exact HE.out
    · dsimp only at h_kind h_src h_dst h_asset h_amount h_due h_hash h_sec
      subst h_kind h_src h_dst h_asset h_amount h_due h_hash
      have HE := Kept.mk (HE0.out (.cells #[.int .i64 3, .int .i64 0, .int .i64 0, .int .i64 0, .int .i64 0, .int .i64 id, .int .i64 0, .string (strOfNums []), .string (strOfNums sec)] 71)); have FP := Kept.mk (FP0.out (.cells #[.int .i64 3, .int .i64 0, .int .i64 0, .int .i64 0, .int .i64 0, .int .i64 id, .int .i64 0, .string (strOfNums []), .string (strOfNums sec)] 71)); have X := Kept.mk (X0.out #[.int .i64 3, .int .i64 0, .int .i64 0, .int .i64 0, .int .i64 0, .int .i64 id, .int .i64 0, .string (strOfNums []), .string (strOfNums sec)])
      have KH := Kept.mk KH0
      clear KH0
      go_enter Tryz.func92, Tryz.ntmps92
      go_upto_region 1 with (fail)
      generalize w.alloc (.cells #[.int .i64 3, .int .i64 0, .int .i64 0, .int .i64 0, .int .i64 0, .int .i64 id, .int .i64 0, .string (strOfNums []), .string (strOfNums sec)] 71) = w0 at *
      clear HE0 FP0 X0
      have x0 := X.out.cell 0; have x1 := X.out.cell 1; have x2 := X.out.cell 2; have x3 := X.out.cell 3; have x4 := X.out.cell 4; have x5 := X.out.cell 5; have x6 := X.out.cell 6; have x7 := X.out.cell 7; have x8 := X.out.cell 8
      go_wp2_with fail
      refine (KH.out _).mono ?_
      rintro x w1 ⟨rfl, b1⟩
      replace X := Kept.mk (X.out.below b1 X.out.lt); replace HE := Kept.mk (HE.out.below b1); replace FP := Kept.mk (FP.out.trans (F'' := F) ⟨barOf b1 _, fun _ hk => .inl hk⟩)
      clear b1 KH x0 x1 x2 x3 x4 x5 x6 x7 x8
      have x0 := X.out.cell 0
      have KC := num_any w1 F e 3 1 _ HE.out (by have := hl; omega)
      go_wp2_with fail
      refine KC.mono ?_
      rintro x w2 ⟨rfl, F2, he, fp⟩
      have hlt := X.out.lt
      have LB2 : Kept ((encNum st 3 1).2.length ≤ 900000000 + 8) := ⟨by
        have a1 := encNum_len st 3 1
        omega⟩
      replace X := Kept.mk (X.out.bar fp.1 NF.out); replace NF := Kept.mk (cnotin_step fp NF.out hlt); replace FP := Kept.mk (FP.out.trans fp); replace HE := Kept.mk he
      clear he fp KC hlt x0
      have x0 := X.out.cell 0; have x5 := X.out.cell 5
      have KC := num_any w2 F2 e id 2 _ HE.out (by have := hl; have := LB2.out; omega)
      go_wp2_with fail
      refine KC.mono ?_
      rintro x w3 ⟨rfl, F3, he, fp⟩
      have hlt := X.out.lt
      have LB3 : Kept ((encNum (encNum st 3 1) id 2).2.length ≤ 900000000 + 16) := ⟨by
        have a1 := encNum_len (encNum st 3 1) id 2
        have := LB2.out; omega⟩
      replace X := Kept.mk (X.out.bar fp.1 NF.out); replace NF := Kept.mk (cnotin_step fp NF.out hlt); replace FP := Kept.mk (FP.out.trans fp); replace HE := Kept.mk he
      clear he fp KC hlt x0 x5
      have x0 := X.out.cell 0; have x8 := X.out.cell 8
      have KC := puttext_any sec hb2 (by omega) HE.out (by have := hl; have := LB2.out; have := LB3.out; omega)
      go_wp2_with fail
      refine KC.mono ?_
      rintro x w4 ⟨rfl, F4, he, fp⟩
      have hlt := X.out.lt
      have LB4 : Kept ((wText (encNum (encNum st 3 1) id 2) sec).2.length ≤ 900000000 + 48) := ⟨by
        have a1 := wText_len (encNum (encNum st 3 1) id 2) sec
        have := LB3.out; omega⟩
      replace X := Kept.mk (X.out.bar fp.1 NF.out); replace NF := Kept.mk (cnotin_step fp NF.out hlt); replace FP := Kept.mk (FP.out.trans fp); replace HE := Kept.mk he
      clear he fp KC hlt x0 x8
      go_wp2
      go_ret
      refine ⟨rfl, _, ?_, FP.out⟩
      rw [← wEv3 st id sec]; exact HE.out
    · dsimp only at h_kind h_src h_dst h_asset h_amount h_due h_hash h_sec
      subst h_kind h_src h_dst h_asset h_amount h_due h_hash h_sec
      have HE := Kept.mk (HE0.out (.cells #[.int .i64 4, .int .i64 0, .int .i64 0, .int .i64 0, .int .i64 0, .int .i64 id, .int .i64 0, .string (strOfNums []), .string (strOfNums [])] 71)); have FP := Kept.mk (FP0.out (.cells #[.int .i64 4, .int .i64 0, .int .i64 0, .int .i64 0, .int .i64 0, .int .i64 id, .int .i64 0, .string (strOfNums []), .string (strOfNums [])] 71)); have X := Kept.mk (X0.out #[.int .i64 4, .int .i64 0, .int .i64 0, .int .i64 0, .int .i64 0, .int .i64 id, .int .i64 0, .string (strOfNums []), .string (strOfNums [])])
      have KH := Kept.mk KH0
      clear KH0
      go_enter Tryz.func92, Tryz.ntmps92
      go_upto_region 1 with (fail)
      generalize w.alloc (.cells #[.int .i64 4, .int .i64 0, .int .i64 0, .int .i64 0, .int .i64 0, .int .i64 id, .int .i64 0, .string (strOfNums []), .string (strOfNums [])] 71) = w0 at *
      clear HE0 FP0 X0
      have x0 := X.out.cell 0; have x1 := X.out.cell 1; have x2 := X.out.cell 2; have x3 := X.out.cell 3; have x4 := X.out.cell 4; have x5 := X.out.cell 5; have x6 := X.out.cell 6; have x7 := X.out.cell 7; have x8 := X.out.cell 8
      go_wp2_with fail
      refine (KH.out _).mono ?_
      rintro x w1 ⟨rfl, b1⟩
      replace X := Kept.mk (X.out.below b1 X.out.lt); replace HE := Kept.mk (HE.out.below b1); replace FP := Kept.mk (FP.out.trans (F'' := F) ⟨barOf b1 _, fun _ hk => .inl hk⟩)
      clear b1 KH x0 x1 x2 x3 x4 x5 x6 x7 x8
      have x0 := X.out.cell 0
      have KC := num_any w1 F e 4 1 _ HE.out (by have := hl; omega)
      go_wp2_with fail
      refine KC.mono ?_
      rintro x w2 ⟨rfl, F2, he, fp⟩
      have hlt := X.out.lt
      have LB2 : Kept ((encNum st 4 1).2.length ≤ 900000000 + 8) := ⟨by
        have a1 := encNum_len st 4 1
        omega⟩
      replace X := Kept.mk (X.out.bar fp.1 NF.out); replace NF := Kept.mk (cnotin_step fp NF.out hlt); replace FP := Kept.mk (FP.out.trans fp); replace HE := Kept.mk he
      clear he fp KC hlt x0
      have x0 := X.out.cell 0; have x5 := X.out.cell 5
      have KC := num_any w2 F2 e id 2 _ HE.out (by have := hl; have := LB2.out; omega)
      go_wp2_with fail
      refine KC.mono ?_
      rintro x w3 ⟨rfl, F3, he, fp⟩
      have hlt := X.out.lt
      have LB3 : Kept ((encNum (encNum st 4 1) id 2).2.length ≤ 900000000 + 16) := ⟨by
        have a1 := encNum_len (encNum st 4 1) id 2
        have := LB2.out; omega⟩
      replace X := Kept.mk (X.out.bar fp.1 NF.out); replace NF := Kept.mk (cnotin_step fp NF.out hlt); replace FP := Kept.mk (FP.out.trans fp); replace HE := Kept.mk he
      clear he fp KC hlt x0 x5
      go_wp2
      go_ret
      refine ⟨rfl, _, ?_, FP.out⟩
      rw [← wEv4 st id]; exact HE.out
  · rw [if_neg hh, decide_eq_false hh]
    rw [decide_eq_false hh] at KH0
    have HE := Kept.mk (HE0.out (.cells #[.int .i64 kind, .int .i64 src, .int .i64 dst, .int .i64 asset, .int .i64 amount, .int .i64 id, .int .i64 due, .string (strOfNums hash), .string (strOfNums sec)] 71)); have FP := Kept.mk (FP0.out (.cells #[.int .i64 kind, .int .i64 src, .int .i64 dst, .int .i64 asset, .int .i64 amount, .int .i64 id, .int .i64 due, .string (strOfNums hash), .string (strOfNums sec)] 71)); have X := Kept.mk (X0.out #[.int .i64 kind, .int .i64 src, .int .i64 dst, .int .i64 asset, .int .i64 amount, .int .i64 id, .int .i64 due, .string (strOfNums hash), .string (strOfNums sec)])
    have KH := Kept.mk KH0
    clear KH0
    go_enter Tryz.func92, Tryz.ntmps92
    go_upto_region 1 with (fail)
    generalize w.alloc (.cells #[.int .i64 kind, .int .i64 src, .int .i64 dst, .int .i64 asset, .int .i64 amount, .int .i64 id, .int .i64 due, .string (strOfNums hash), .string (strOfNums sec)] 71) = w0 at *
    clear HE0 FP0 X0
    have x0 := X.out.cell 0; have x1 := X.out.cell 1; have x2 := X.out.cell 2; have x3 := X.out.cell 3; have x4 := X.out.cell 4; have x5 := X.out.cell 5; have x6 := X.out.cell 6; have x7 := X.out.cell 7; have x8 := X.out.cell 8
    go_wp2_with fail
    refine (KH.out _).mono ?_
    rintro x w1 ⟨rfl, b1⟩
    replace X := Kept.mk (X.out.below b1 X.out.lt); replace HE := Kept.mk (HE.out.below b1); replace FP := Kept.mk (FP.out.trans (F'' := F) ⟨barOf b1 _, fun _ hk => .inl hk⟩)
    clear b1 KH x0 x1 x2 x3 x4 x5 x6 x7 x8
    go_wp2
    go_ret
    exact ⟨rfl, F, HE.out, FP.out⟩
end Go.Proofs.YtchcgoabogcabaaGreat.Req
