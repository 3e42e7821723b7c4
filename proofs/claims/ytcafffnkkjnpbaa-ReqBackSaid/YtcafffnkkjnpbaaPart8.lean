/-
  Parts laid together: ReqPost ReqPostA ReqFace ReqFirst ReqRPut ReqRGet ReqRSame.
-/
import Derived.Test.YtcafffnkkjnpbaaPart6
import Derived.Test.YtcafffnkkjnpbaaPart1
import Derived.Test.YtcafffnkkjnpbaaPart7
import Derived.Test.YtcafffnkkjnpbaaPart3
import Derived.Deep.QuietTactic
import Derived.BigQuiet

namespace Go.Proofs.Ytcafffnkkjnpbaa.Req
open Go.RowKit Go.Proofs.Ytcafffnkkjnpbaa.Sha Go.Proofs.Ytcafffnkkjnpbaa.Wire

def DecBPost (b : List Int) (w : World) (x : Ending) (w' : World) : Prop :=
  ∃ e seen A n c l, x = .returned (.tuple #[.agg #[.int .i64 seen, .slice A n c], .int .i64 e]) ∧ n ≤ c ∧ c ≤ 9223372036854775807 ∧ Rr w' A n l ∧ (∀ r ∈ l, r.ok) ∧ DecB b e ⟨seen, l⟩ ∧ Below w.heap.size w w'
theorem results_row_tmp {P : Program} {fn : Func} {p u : Tmp} {ty : TypeId} (h : fn.results = #[.cell p ty, .tmp u]) (tmps : Array Value) (w : World) (g : Nat) (t : TypeId) (cs : Array Value) (fr : Nat × Nat) (d : TypeDesc)
    (hp : tmps.getD p undef = .pointer (some ⟨g, 0, none⟩)) (hg : w.heap[g]? = some (.cells cs t fr))
    (hu : P.underlying ty = some d) (hd : (match d with | .struct _ | .array _ _ => true | _ => false) = true) (hi : (P.info? ty).map (·.size) = some cs.size) :
    (results fn tmps).run P w = .ok (.tuple #[.agg cs, tmps.getD u undef]) w := by
  have hp' : tmps[p]?.getD undef = .pointer (some ⟨g, 0, none⟩) := by simpa using hp
  simp [results, h, hp', asAddr, run_loadVar_row w g t ty cs fr d hg hu hd hi, Result.andThen]
theorem batch_size : (Try.prog.info? 24).map (·.size) = some 2 := by kernel_rfl
theorem many_stop {α : Type} (g : St → α × St) (k : Nat) {st : St} (h : (many g k st).2.1 ≠ 0) : ∀ j, many g (k + j) st = many g k st
  | 0 => rfl
  | j + 1 => by
    have e := many_stop g k h j
    rw [← Nat.add_assoc, many_snoc, e, if_neg h]
theorem many_len {α : Type} (g : St → α × St) : ∀ (k : Nat) (st : St), (many g k st).1.length ≤ k
  | 0, _ => Nat.le_refl _
  | k + 1, st => by
    rw [many]
    split
    · have := many_len g k (g st).2
      simp only [List.length_cons]; omega
    · simp
theorem many_next {α : Type} (g : St → α × St) {k : Nat} {st : St} (h : (many g k st).2.1 = 0) : many g (k + 1) st = ((many g k st).1 ++ [(g (many g k st).2).1], (g (many g k st).2).2) := by
  rw [many_snoc, if_pos h]
theorem decNum_size0 (st : St) (hb : Bytes st.2) : 0 ≤ (decNum st 1).1 ∧ (decNum st 1).1 ≤ 255 := by
  unfold decNum
  split
  · split
    · split
      · rename_i h
        have h1 := val_take_lt st.2 hb 1 (by have := h.1; simpa using this)
        constructor
        · exact Int.natCast_nonneg _
        · have e : (Int.toNat 1) = 1 := rfl
          simp only [e]; omega
      · simp
    · simp
  · simp
theorem getR_left (st : St) : (getR st).2.2.length ≤ st.2.length := by
  have hn := fun (t : St) (s : Int) => (show (decNum t s).2.2.length ≤ t.2.length by
    unfold decNum
    split
    · split
      · split
        · simp
        · simp
      · simp
    · simp)
  have hw := fun (t : St) => (show (rawD t 32).2.2.length ≤ t.2.length by
    unfold rawD
    split
    · split
      · simp
      · simp
    · simp)
  unfold getR
  simp only
  have g1 : ∀ (p : Prop) [Decidable p] (t : St) (s : Int), (if p then decNum t s else (0, t)).2.2.length ≤ t.2.length := fun p _ t s => by
    split
    · exact hn t s
    · exact Nat.le_refl _
  have g2 : ∀ (p : Prop) [Decidable p] (t : St), (if p then rawD t 32 else ([], t)).2.2.length ≤ t.2.length := fun p _ t => by
    split
    · exact hw t
    · exact Nat.le_refl _
  exact Nat.le_trans (g2 _ _) (Nat.le_trans (g1 _ _ _) (Nat.le_trans (g1 _ _ _) (Nat.le_trans (g2 _ _) (Nat.le_trans (g1 _ _ _) (Nat.le_trans (g1 _ _ _) (Nat.le_trans (g1 _ _ _) (hn st 1)))))))
theorem many_left_of {α : Type} {g : St → α × St} (h : ∀ st, (g st).2.2.length ≤ st.2.length) : ∀ (k : Nat) (st : St), (many g k st).2.2.length ≤ st.2.length
  | 0, _ => Nat.le_refl _
  | k + 1, st => by
    rw [many]
    split
    · exact Nat.le_trans (many_left_of h k _) (h st)
    · exact Nat.le_refl _
theorem many_left (k : Nat) (st : St) : (many getR k st).2.2.length ≤ st.2.length := many_left_of getR_left k st
end Go.Proofs.Ytcafffnkkjnpbaa.Req

namespace Go.Proofs.Ytcafffnkkjnpbaa.Req
open Go.RowKit Go.Proofs.Ytcafffnkkjnpbaa.Sha Go.Proofs.Ytcafffnkkjnpbaa.Wire

def EncPost (r : Int × List Int) (w : World) (x : Ending) (w' : World) : Prop := ∃ A n c, x = .returned (.tuple #[.slice A n c, .int .i64 r.1]) ∧ n ≤ c ∧ c ≤ 9223372036854775807 ∧ Rd w' A n r.2 ∧ Below w.heap.size w w'
def SamePost (p : Prop) (w : World) (e : Ending) (w' : World) : Prop := ∃ q : Bool, e = .returned (.bool q) ∧ (q = true ↔ p) ∧ Below w.heap.size w w'
def DecAPost (b : List Int) (w : World) (x : Ending) (w' : World) : Prop :=
  ∃ e clock seen A n c l D m d v, x = .returned (.tuple #[.agg #[.int .i64 clock, .int .i64 seen, .slice A n c, .slice D m d], .int .i64 e]) ∧ n ≤ c ∧ c ≤ 9223372036854775807 ∧ m ≤ d ∧ d ≤ 9223372036854775807 ∧ Rp w' A n l ∧ Rv w' D m v ∧ (∀ r ∈ v, r.ok) ∧ DecA b e ⟨clock, seen, l, v⟩ ∧ Below w.heap.size w w'
/-- their texts are not long -/
def RV.small (r : RV) : Prop := r.hash.length ≤ 20000 ∧ r.sec.length ≤ 20000
def VV.small (r : VV) : Prop := r.hash.length ≤ 20000 ∧ r.sec.length ≤ 20000
theorem MayR.small {r : RV} (h : MayR r) : r.small := by
  rcases h with ⟨-, -, -, -, -, -, h1, h2⟩ | ⟨-, -, -, -, -, -, h1, h2⟩ | ⟨-, -, -, -, -, -, h1, h2⟩ | ⟨-, -, -, -, -, -, h1, h2⟩ <;> constructor <;> simp [h1, h2]
theorem MayV.small {r : VV} (h : MayV r) : r.small := by
  rcases h with ⟨-, -, -, -, -, -, -, h1, h2⟩ | ⟨-, -, -, -, -, -, -, h1, h2⟩ | ⟨-, -, -, -, -, -, -, h1, h2⟩ | ⟨-, -, -, -, -, -, -, h1, h2⟩ <;> constructor <;> simp [h1, h2]
end Go.Proofs.Ytcafffnkkjnpbaa.Req

namespace Go.Proofs.Ytcafffnkkjnpbaa.Req
open Go.RowKit Go.Proofs.Ytcafffnkkjnpbaa.Sha Go.Proofs.Ytcafffnkkjnpbaa.Wire

structure ReqApi : Prop where
  encb : ∀ (seen : Int) {A : Option Addr} {n c : Nat} {l : List RV} {w : World}, Rr w A n l → n ≤ c → c ≤ 9223372036854775807 → n ≤ 100000 → (∀ r ∈ l, r.ok) → (∀ r ∈ l, r.small) → Calls Try.prog 11 #[.agg #[.int .i64 seen, .slice A n c]] w (EncPost (encB ⟨seen, l⟩) w)
  decb : ∀ {A : Option Addr} {n c : Nat} {b : List Int} {w : World}, Rd w A n b → n ≤ c → c ≤ 9223372036854775807 → n ≤ 100000 → Calls Try.prog 13 #[.slice A n c] w (DecBPost b w)
  sameb : ∀ (s1 : Int) {A1 : Option Addr} {n1 c1 : Nat} {l1 : List RV} (s2 : Int) {A2 : Option Addr} {n2 c2 : Nat} {l2 : List RV} {w : World}, Rr w A1 n1 l1 → Rr w A2 n2 l2 → n1 ≤ c1 → c1 ≤ 9223372036854775807 → n2 ≤ c2 → c2 ≤ 9223372036854775807 → n1 ≤ 100000 → n2 ≤ 100000 → (∀ r ∈ l1, r.ok) → (∀ r ∈ l2, r.ok) →
    Calls Try.prog 17 #[.agg #[.int .i64 s1, .slice A1 n1 c1], .agg #[.int .i64 s2, .slice A2 n2 c2]] w (SamePost ((⟨s1, l1⟩ : BV) = ⟨s2, l2⟩) w)
  enca : ∀ (clock seen : Int) {A : Option Addr} {n c : Nat} {l : List PV} {D : Option Addr} {m d : Nat} {v : List VV} {w : World}, Rp w A n l → Rv w D m v → n ≤ c → c ≤ 9223372036854775807 → m ≤ d → d ≤ 9223372036854775807 → n ≤ 100000 → m ≤ 100000 → (∀ r ∈ v, r.ok) → (∀ r ∈ v, r.small) →
    Calls Try.prog 19 #[.agg #[.int .i64 clock, .int .i64 seen, .slice A n c, .slice D m d]] w (EncPost (encA ⟨clock, seen, l, v⟩) w)
  deca : ∀ {A : Option Addr} {n c : Nat} {b : List Int} {w : World}, Rd w A n b → n ≤ c → c ≤ 9223372036854775807 → n ≤ 100000 → Calls Try.prog 21 #[.slice A n c] w (DecAPost b w)
  samea : ∀ (t1 s1 : Int) {A1 : Option Addr} {n1 c1 : Nat} {l1 : List PV} {D1 : Option Addr} {m1 e1 : Nat} {v1 : List VV} (t2 s2 : Int) {A2 : Option Addr} {n2 c2 : Nat} {l2 : List PV} {D2 : Option Addr} {m2 e2 : Nat} {v2 : List VV} {w : World}, Rp w A1 n1 l1 → Rp w A2 n2 l2 → Rv w D1 m1 v1 → Rv w D2 m2 v2 → n1 ≤ c1 → c1 ≤ 9223372036854775807 → n2 ≤ c2 → c2 ≤ 9223372036854775807 → m1 ≤ e1 → e1 ≤ 9223372036854775807 → m2 ≤ e2 → e2 ≤ 9223372036854775807 → n1 ≤ 100000 → n2 ≤ 100000 → m1 ≤ 100000 → m2 ≤ 100000 → (∀ r ∈ v1, r.ok) → (∀ r ∈ v2, r.ok) →
    Calls Try.prog 24 #[.agg #[.int .i64 t1, .int .i64 s1, .slice A1 n1 c1, .slice D1 m1 e1], .agg #[.int .i64 t2, .int .i64 s2, .slice A2 n2 c2, .slice D2 m2 e2]] w (SamePost ((⟨t1, s1, l1, v1⟩ : AV) = ⟨t2, s2, l2, v2⟩) w)
end Go.Proofs.Ytcafffnkkjnpbaa.Req

namespace Go.Proofs.Ytcafffnkkjnpbaa.Req
open Go.RowKit Go.Proofs.Ytcafffnkkjnpbaa.Sha Go.Proofs.Ytcafffnkkjnpbaa.Wire

theorem DecB.len {b : List Int} {e : Int} {x : BV} (h : DecB b e x) : x.l.length ≤ 64 ∧ ∀ r ∈ x.l, r.small := by
  rcases h with ⟨-, h⟩ | ⟨-, rfl, -⟩
  · obtain ⟨h, -⟩ := encB_inv h
    exact ⟨h.2.1, fun r hr => (h.2.2 r hr).small⟩
  · exact ⟨by simp, by simp⟩
theorem DecA.len {b : List Int} {e : Int} {x : AV} (h : DecA b e x) : x.p.length ≤ 64 ∧ x.v.length ≤ 400 ∧ ∀ r ∈ x.v, r.small := by
  rcases h with ⟨-, h⟩ | ⟨-, rfl, -⟩
  · obtain ⟨h, -⟩ := encA_inv h
    exact ⟨h.2.2.1, h.2.2.2.1, fun r hr => (h.2.2.2.2.2 r hr).small⟩
  · exact ⟨by simp, by simp, by simp⟩
def Yes (w : World) (e : Ending) (w' : World) : Prop := e = .returned (.bool true) ∧ Below w.heap.size w w'

set_option maxRecDepth 100000 in
set_option maxHeartbeats 1000000 in
theorem first_any (api : ReqApi) (w : World) : Calls Try.prog 9 #[] w (Yes w) := by
  have KE := api.encb 0 (A := none) (n := 0) (c := 0) (l := []) (w := w) Rc.nil (by omega) (by omega) (by omega) (by simp) (by simp)
  have e : encB ⟨0, []⟩ = (0, [0, 0, 0]) := by decide +kernel
  rw [e] at KE
  unfold EncPost at KE
  have KE2 := Kept.mk KE
  clear KE e
  go_enter Try.func9, Try.ntmps9
  go_wp2_with fail
  refine KE2.out.mono ?_
  rintro x w1 ⟨A, n, c, rfl, -, -, r1, b1⟩
  have R1 := Kept.mk r1
  have B := Kept.mk b1
  have b2 : Below w1.heap.size w1 (w1.alloc (.cells #[.int .u8 0, .int .u8 0, .int .u8 0] 5)) := (Below.refl _ _).alloc (Nat.le_refl _) _
  have r2 : Rd (w1.alloc (.cells #[.int .u8 0, .int .u8 0, .int .u8 0] 5)) (some ⟨w1.heap.size, 0, none⟩) 3 [0, 0, 0] := Rd.blk (Blk.new w1 _ _) (by intro x hx; simp at hx; omega) rfl
  have KB := Kept.mk (bytes_same A (some ⟨w1.heap.size, 0, none⟩) n 3 c 3 [0, 0, 0] _ (r1.below b2) r2)
  have B3 := Kept.mk (b1.trans (b2.mono b1.size))
  clear r1 b1 b2 r2 KE2
  go_wp2_with fail
  refine KB.out.mono ?_
  rintro x w2 ⟨rfl, rfl⟩
  go_wp2
  go_ret
  exact ⟨rfl, B3.out⟩

/-- of a Few: where it says yes, there are at most m, and their texts are short -/
def FewPost (p : Prop) (w : World) (e : Ending) (w' : World) : Prop := ∃ t : Bool, e = .returned (.bool t) ∧ (t = true → p) ∧ Below w.heap.size w w'
theorem all_snoc' {α : Type} {p : α → Prop} {l : List α} {k : Nat} {x : α} (h : l[k]? = some x) (ha : ∀ r ∈ l.take k, p r) (hx : p x) : ∀ r ∈ l.take (k + 1), p r := by
  obtain ⟨hk, rfl⟩ := List.getElem?_eq_some_iff.1 h
  rw [List.take_succ_eq_append_getElem hk]
  intro r hr
  rcases List.mem_append.1 hr with h1 | h1
  · exact ha r h1
  · rw [List.mem_singleton] at h1; subst h1; exact hx
theorem flat_snoc' {α : Type} {f : α → List Int} {l : List α} {k : Nat} {x : α} (h : l[k]? = some x) : (l.take (k + 1)).flatMap f = (l.take k).flatMap f ++ f x := by
  obtain ⟨hk, rfl⟩ := List.getElem?_eq_some_iff.1 h
  rw [List.take_succ_eq_append_getElem hk, List.flatMap_append, List.flatMap_cons, List.flatMap_nil, List.append_nil]
theorem min_as (l : Nat) : ∃ m : Nat, min (l : Int) 20001 = m ∧ m ≤ 20001 ∧ (m ≤ 20000 → l ≤ 20000) := by
  by_cases h : l ≤ 20001
  · exact ⟨l, by omega, by omega, by omega⟩
  · exact ⟨20001, by omega, by omega, by omega⟩
set_option maxRecDepth 100000 in
set_option maxHeartbeats 2000000 in
theorem few_any (seen : Int) (A : Option Addr) (n c : Nat) (l : List RV) (w : World) (hr : Rr w A n l) (hc : n ≤ 9223372036854775807) : Calls Try.prog 10 #[.agg #[.int .i64 seen, .slice A n c]] w (FewPost (n ≤ 100 ∧ ∀ r ∈ l, r.small) w) := by
  have HR := Kept.mk hr
  have LN := Kept.mk hr.1
  obtain ⟨Q, hQ⟩ : ∃ Q : Prop, (n ≤ 100 ∧ ∀ r ∈ l, r.small) = Q := ⟨_, rfl⟩
  rw [hQ]
  have HQ := Kept.mk hQ
  obtain ⟨N, hN⟩ : ∃ N, w.heap.size = N := ⟨_, rfl⟩
  have X : Kept (Blk (w.alloc (.cells #[.int .i64 seen, .slice A n c] 24)) N 24 #[.int .i64 seen, .slice A n c]) := ⟨Blk.new_at w _ _ N hN.symm⟩
  have B : Kept (Below w.heap.size w (w.alloc (.cells #[.int .i64 seen, .slice A n c] 24))) := ⟨(Below.refl _ _).alloc (Nat.le_refl _) _⟩
  clear hr hQ
  go_enter Try.func10, Try.ntmps10
  go_upto_region 1 with (fail)
  generalize w.alloc (.cells #[.int .i64 seen, .slice A n c] 24) = w1 at *
  go_wp2
  go_loopw [3, 4] (fun s i wr => ∃ k z : Nat, k ≤ n ∧ k ≤ 100 ∧ z ≤ 40002 * k ∧ s = .int .i64 z ∧ i = .int .i64 k ∧ Kept (z ≤ 20000 → ∀ r ∈ l.take k, r.small) ∧ Kept (Blk wr N 24 #[.int .i64 seen, .slice A n c]) ∧ Kept (Below w.heap.size w wr)) (fun _ i _ => n - (Go.RowKit.intOf i).toNat)
  case atStart => exact ⟨0, 0, by omega, by omega, by omega, rfl, rfl, ⟨by simp⟩, X, B⟩
  case round =>
    clear X B
    obtain ⟨k, z, hk, hk2, hz, rfl, rfl, HS, X, B⟩ := hrel
    have x1 := X.out.cell 1
    by_cases hkn : k < n
    · have hkn' : (k : Int) < n := by omega
      by_cases hk3 : k < 100
      · have hk3' : (k : Int) < 100 := by omega
        obtain ⟨b, o, r, rfl, hx, hcell⟩ := (HR.out.below B.out).at_ hkn
        obtain ⟨m1, h1, h2, h3⟩ := min_as (strOfNums r.hash).size
        obtain ⟨m2, h4, h5, h6⟩ := min_as (strOfNums r.sec).size
        rw [strOfNums_size] at h3 h6
        have HS2 : Kept (z + m1 + m2 ≤ 20000 → ∀ r ∈ l.take (k + 1), r.small) := ⟨fun h => all_snoc' hx (HS.out (by omega)) ⟨h3 (by omega), h6 (by omega)⟩⟩
        have y6 := hcell 6 _ rfl; have y7 := hcell 7 _ rfl
        have e1 : IntKind.i64.wrap ((z : Int) + m1) = (z : Int) + m1 := by rw [IntKind.wrap_i64]; omega
        have e2 : IntKind.i64.wrap ((z : Int) + m1 + m2) = (z : Int) + m1 + m2 := by rw [IntKind.wrap_i64]; omega
        clear hcell hx h3 h6
        generalize strOfNums r.hash = S1 at *
        generalize strOfNums r.sec = S2 at *
        go_upto_region 5 with (fail)
        go_quiet (fail)
        generalize hd : wr.drewN nq = wd at *
        have BD : Below wr.heap.size wr wd := hd ▸ below_drewN (Below.refl _ _) nq
        replace B := Kept.mk (B.out.trans (BD.mono B.out.size)); replace X := Kept.mk (X.out.below BD X.out.lt)
        clear BD hd y6 y7 x1
        go_wp2
        go_roundw
        case rel => exact ⟨k + 1, z + m1 + m2, by omega, by omega, by omega, by go_num, by go_num, HS2, X, B⟩
        case measure => simp [Go.RowKit.intOf]; omega
      · obtain rfl : k = 100 := by omega
        have hk3' : ¬ ((100 : Nat) : Int) < 100 := by omega
        have hn2 : ¬ (n : Int) ≤ 100 := by omega
        go_wp2
        go_ret
        exact ⟨_, rfl, by simp, B.out⟩
    · have hkn' : ¬ (k : Int) < n := by omega
      obtain rfl : k = n := by omega
      have hk3 : (k : Int) ≤ 100 := by omega
      by_cases hz2 : z ≤ 20000
      · have hz3 : (z : Int) ≤ 20000 := by omega
        have YES : Kept Q := ⟨by
          rw [← HQ.out]
          have := HS.out hz2
          rw [List.take_of_length_le (Nat.le_of_eq LN.out)] at this
          exact ⟨by omega, this⟩⟩
        go_wp2
        go_ret
        exact ⟨true, rfl, fun _ => YES.out, B.out⟩
      · have hz3 : ¬ (z : Int) ≤ 20000 := by omega
        go_wp2
        go_ret
        exact ⟨_, rfl, by simp, B.out⟩
end Go.Proofs.Ytcafffnkkjnpbaa.Req

namespace Go.Proofs.Ytcafffnkkjnpbaa.Req
open Go.RowKit Go.Proofs.Ytcafffnkkjnpbaa.Sha Go.Proofs.Ytcafffnkkjnpbaa.Wire

theorem fitsI {n : Int} {s : Nat} (h1 : 1 ≤ s) (h8 : s ≤ 8) (h0 : 0 ≤ n) (hm : n ≤ 4611686018427387904) (hn : n < 256 ^ s) : fits n s = true := by
  unfold fits
  apply decide_eq_true
  exact ⟨by omega, by omega, h0, hm, by rw [Int.toNat_natCast]; exact hn⟩
theorem rn1 {n : Int} (xs : List Int) (h : B8 n) : rencNum (0, xs) n 1 = (0, xs ++ be n.toNat 1) := by
  unfold rencNum
  have hf : fits n 1 = true := fitsI (s := 1) (by omega) (by omega) h.1 (by have := h.2; omega) (by have := h.2; omega)
  rw [if_pos hf]
  rfl
theorem rn2 {n : Int} (xs : List Int) (h : I16 n) : rencNum (0, xs) n 2 = (0, xs ++ be n.toNat 2) := by
  unfold rencNum
  have hf : fits n 2 = true := fitsI (s := 2) (by omega) (by omega) h.1 (by have := h.2; omega) (by have := h.2; omega)
  rw [if_pos hf]
  rfl
theorem rn8 {n : Int} (xs : List Int) (h : Amt n) : rencNum (0, xs) n 8 = (0, xs ++ be n.toNat 8) := by
  unfold rencNum
  have hf : fits n 8 = true := fitsI (s := 8) (by omega) (by omega) h.1 h.2 (by have := h.2; omega)
  rw [if_pos hf]
  rfl
theorem notin_step {F F' : List Nat} {w w' : World} {N : Nat} (fp : Fp F F' w w') (h : N ∉ F) (hlt : N < w.heap.size) : N ∉ F' := fun hm => by
  rcases fp.2 N hm with h1 | h1
  · exact h h1
  · omega

set_option maxRecDepth 100000 in
set_option maxHeartbeats 4000000 in
theorem rputr_any {w : World} {F : List Nat} {e : Nat} {xs : List Int} {r : RV} (h : En 62 w F e (0, xs)) (hm : MayR r) (hr : r.ok) (hl : xs.length ≤ 100000000) : Calls Try.prog 33 #[.pointer (some ⟨e, 0, none⟩), rqv r] w fun x w' => x = .returned (.tuple #[]) ∧ ∃ F', En 62 w' F' e (0, xs ++ putR r) ∧ Fp F F' w w' := by
  obtain ⟨kind, dst, asset, amount, id, due, hash, sec⟩ := r
  obtain ⟨hb1, hb2⟩ := hr
  unfold rqv
  dsimp only at hb1 hb2 ⊢
  have hN : w.heap.size ∉ F := fun hm => by have := h.lt _ hm; omega
  have bz : ∀ o, Below w.heap.size w (w.alloc o) := fun o => (Below.refl _ _).alloc (Nat.le_refl _) o
  have NF := Kept.mk hN
  have HE0 := Kept.mk (fun o => h.below (bz o))
  have FP0 : Kept (∀ o, Fp F F w (w.alloc o)) := ⟨fun o => ⟨barOf (bz o) F, fun _ hk => .inl hk⟩⟩
  have X0 := Kept.mk (fun cs => Blk.new w 48 cs)
  obtain ⟨N, hN2⟩ : ∃ N, w.heap.size = N := ⟨_, rfl⟩
  rw [hN2] at NF X0
  clear hN bz h
  rcases hm with ⟨h1, h2, h3, h4, h5, h6, h7, h8⟩ | ⟨h1, h2, h3, h4, h5, h6, h7, h8⟩ | ⟨h1, h2, h3, h4, h5, h6, h7, h8⟩ | ⟨h1, h2, h3, h4, h5, h6, h7, h8⟩ <;> dsimp only at h1 h2 h3 h4 h5 h6 h7 h8
  · subst h1 h5 h6 h7 h8
    have HE := Kept.mk (HE0.out (.cells #[.int .i64 1, .int .i64 dst, .int .i64 asset, .int .i64 amount, .int .i64 0, .int .i64 0, .string (strOfNums []), .string (strOfNums [])] 48)); have FP := Kept.mk (FP0.out (.cells #[.int .i64 1, .int .i64 dst, .int .i64 asset, .int .i64 amount, .int .i64 0, .int .i64 0, .string (strOfNums []), .string (strOfNums [])] 48)); have X := Kept.mk (X0.out #[.int .i64 1, .int .i64 dst, .int .i64 asset, .int .i64 amount, .int .i64 0, .int .i64 0, .string (strOfNums []), .string (strOfNums [])])
    go_enter Try.func33, Try.ntmps33
    go_upto_region 1 with (fail)
    generalize w.alloc (.cells #[.int .i64 1, .int .i64 dst, .int .i64 asset, .int .i64 amount, .int .i64 0, .int .i64 0, .string (strOfNums []), .string (strOfNums [])] 48) = w0 at *
    clear HE0 FP0 X0
    have x0 := X.out.cell 0
    have KC := rnum_any w0 F e 1 1 (0, xs) HE.out (by simp only; omega)
    rw [rn1 _ (show B8 1 from ⟨by omega, by omega⟩)] at KC
    go_wp2_with fail
    refine KC.mono ?_
    rintro x w1 ⟨rfl, F1, he, fp⟩
    have hlt := X.out.lt
    replace X := Kept.mk (X.out.bar fp.1 NF.out); replace NF := Kept.mk (notin_step fp NF.out hlt); replace FP := Kept.mk (FP.out.trans fp); replace HE := Kept.mk he
    clear he fp KC hlt x0
    have x0 := X.out.cell 0; have x1 := X.out.cell 1
    have KC := rnum_any w1 F1 e dst 1 (0, (xs ++ be (1 : Int).toNat 1)) HE.out (by simp only [List.length_append, be_len]; omega)
    rw [rn1 _ h2] at KC
    go_wp2_with fail
    refine KC.mono ?_
    rintro x w2 ⟨rfl, F2, he, fp⟩
    have hlt := X.out.lt
    replace X := Kept.mk (X.out.bar fp.1 NF.out); replace NF := Kept.mk (notin_step fp NF.out hlt); replace FP := Kept.mk (FP.out.trans fp); replace HE := Kept.mk he
    clear he fp KC hlt x0 x1
    have x0 := X.out.cell 0; have x2 := X.out.cell 2
    have KC := rnum_any w2 F2 e asset 1 (0, ((xs ++ be (1 : Int).toNat 1) ++ be (dst : Int).toNat 1)) HE.out (by simp only [List.length_append, be_len]; omega)
    rw [rn1 _ h3] at KC
    go_wp2_with fail
    refine KC.mono ?_
    rintro x w3 ⟨rfl, F3, he, fp⟩
    have hlt := X.out.lt
    replace X := Kept.mk (X.out.bar fp.1 NF.out); replace NF := Kept.mk (notin_step fp NF.out hlt); replace FP := Kept.mk (FP.out.trans fp); replace HE := Kept.mk he
    clear he fp KC hlt x0 x2
    have x0 := X.out.cell 0; have x3 := X.out.cell 3
    have KC := rnum_any w3 F3 e amount 8 (0, (((xs ++ be (1 : Int).toNat 1) ++ be (dst : Int).toNat 1) ++ be (asset : Int).toNat 1)) HE.out (by simp only [List.length_append, be_len]; omega)
    rw [rn8 _ h4] at KC
    go_wp2_with fail
    refine KC.mono ?_
    rintro x w4 ⟨rfl, F4, he, fp⟩
    have hlt := X.out.lt
    replace X := Kept.mk (X.out.bar fp.1 NF.out); replace NF := Kept.mk (notin_step fp NF.out hlt); replace FP := Kept.mk (FP.out.trans fp); replace HE := Kept.mk he
    clear he fp KC hlt x0 x3
    have x0 := X.out.cell 0; have x7 := X.out.cell 7
    obtain ⟨v5, c5, hcv, r2, b2⟩ := to_bytes w4 [] (by intro x hx; simp at hx)
    have KC := rraw_any v5 F4 e (some ⟨w4.heap.size, 0, none⟩) 0 c5 [] (0, ((((xs ++ be (1 : Int).toNat 1) ++ be (dst : Int).toNat 1) ++ be (asset : Int).toNat 1) ++ be (amount : Int).toNat 8)) (HE.out.below b2) r2 (by simp only [List.length_append, be_len]; omega)
    replace FP := Kept.mk (FP.out.trans (F'' := F4) ⟨barOf b2 _, fun _ hk => .inl hk⟩); replace X := Kept.mk (X.out.below b2 X.out.lt)
    clear b2 r2
    go_wp2_with fail
    refine KC.mono ?_
    clear hcv
    rintro x w5 ⟨rfl, F5, he, fp⟩
    have hlt := X.out.lt
    replace X := Kept.mk (X.out.bar fp.1 NF.out); replace NF := Kept.mk (notin_step fp NF.out hlt); replace FP := Kept.mk (FP.out.trans fp); replace HE := Kept.mk he
    clear he fp KC hlt x0 x7
    go_wp2
    go_end0
    refine ⟨rfl, _, ?_, FP.out⟩
    have hp : xs ++ putR ⟨1, dst, asset, amount, 0, 0, [], []⟩ = (((((xs ++ be (1 : Int).toNat 1) ++ be (dst : Int).toNat 1) ++ be (asset : Int).toNat 1) ++ be (amount : Int).toNat 8) ++ []) := by simp [putR, List.append_assoc]
    rw [hp]; exact HE.out
  · subst h1 h5 h8
    have HE := Kept.mk (HE0.out (.cells #[.int .i64 2, .int .i64 dst, .int .i64 asset, .int .i64 amount, .int .i64 0, .int .i64 due, .string (strOfNums hash), .string (strOfNums [])] 48)); have FP := Kept.mk (FP0.out (.cells #[.int .i64 2, .int .i64 dst, .int .i64 asset, .int .i64 amount, .int .i64 0, .int .i64 due, .string (strOfNums hash), .string (strOfNums [])] 48)); have X := Kept.mk (X0.out #[.int .i64 2, .int .i64 dst, .int .i64 asset, .int .i64 amount, .int .i64 0, .int .i64 due, .string (strOfNums hash), .string (strOfNums [])])
    go_enter Try.func33, Try.ntmps33
    go_upto_region 1 with (fail)
    generalize w.alloc (.cells #[.int .i64 2, .int .i64 dst, .int .i64 asset, .int .i64 amount, .int .i64 0, .int .i64 due, .string (strOfNums hash), .string (strOfNums [])] 48) = w0 at *
    clear HE0 FP0 X0
    have x0 := X.out.cell 0
    have KC := rnum_any w0 F e 2 1 (0, xs) HE.out (by simp only; omega)
    rw [rn1 _ (show B8 2 from ⟨by omega, by omega⟩)] at KC
    go_wp2_with fail
    refine KC.mono ?_
    rintro x w1 ⟨rfl, F1, he, fp⟩
    have hlt := X.out.lt
    replace X := Kept.mk (X.out.bar fp.1 NF.out); replace NF := Kept.mk (notin_step fp NF.out hlt); replace FP := Kept.mk (FP.out.trans fp); replace HE := Kept.mk he
    clear he fp KC hlt x0
    have x0 := X.out.cell 0; have x1 := X.out.cell 1
    have KC := rnum_any w1 F1 e dst 1 (0, (xs ++ be (2 : Int).toNat 1)) HE.out (by simp only [List.length_append, be_len]; omega)
    rw [rn1 _ h2] at KC
    go_wp2_with fail
    refine KC.mono ?_
    rintro x w2 ⟨rfl, F2, he, fp⟩
    have hlt := X.out.lt
    replace X := Kept.mk (X.out.bar fp.1 NF.out); replace NF := Kept.mk (notin_step fp NF.out hlt); replace FP := Kept.mk (FP.out.trans fp); replace HE := Kept.mk he
    clear he fp KC hlt x0 x1
    have x0 := X.out.cell 0; have x2 := X.out.cell 2
    have KC := rnum_any w2 F2 e asset 1 (0, ((xs ++ be (2 : Int).toNat 1) ++ be (dst : Int).toNat 1)) HE.out (by simp only [List.length_append, be_len]; omega)
    rw [rn1 _ h3] at KC
    go_wp2_with fail
    refine KC.mono ?_
    rintro x w3 ⟨rfl, F3, he, fp⟩
    have hlt := X.out.lt
    replace X := Kept.mk (X.out.bar fp.1 NF.out); replace NF := Kept.mk (notin_step fp NF.out hlt); replace FP := Kept.mk (FP.out.trans fp); replace HE := Kept.mk he
    clear he fp KC hlt x0 x2
    have x0 := X.out.cell 0; have x3 := X.out.cell 3
    have KC := rnum_any w3 F3 e amount 8 (0, (((xs ++ be (2 : Int).toNat 1) ++ be (dst : Int).toNat 1) ++ be (asset : Int).toNat 1)) HE.out (by simp only [List.length_append, be_len]; omega)
    rw [rn8 _ h4] at KC
    go_wp2_with fail
    refine KC.mono ?_
    rintro x w4 ⟨rfl, F4, he, fp⟩
    have hlt := X.out.lt
    replace X := Kept.mk (X.out.bar fp.1 NF.out); replace NF := Kept.mk (notin_step fp NF.out hlt); replace FP := Kept.mk (FP.out.trans fp); replace HE := Kept.mk he
    clear he fp KC hlt x0 x3
    have x0 := X.out.cell 0; have x6 := X.out.cell 6
    obtain ⟨v5, c5, hcv, r2, b2⟩ := to_bytes w4 hash hb1
    rw [h7] at hcv r2
    have KC := rraw_any v5 F4 e (some ⟨w4.heap.size, 0, none⟩) 32 c5 hash (0, ((((xs ++ be (2 : Int).toNat 1) ++ be (dst : Int).toNat 1) ++ be (asset : Int).toNat 1) ++ be (amount : Int).toNat 8)) (HE.out.below b2) r2 (by simp only [List.length_append, be_len]; omega)
    replace FP := Kept.mk (FP.out.trans (F'' := F4) ⟨barOf b2 _, fun _ hk => .inl hk⟩); replace X := Kept.mk (X.out.below b2 X.out.lt)
    clear b2 r2
    go_wp2_with fail
    refine KC.mono ?_
    clear hcv
    rintro x w5 ⟨rfl, F5, he, fp⟩
    have hlt := X.out.lt
    replace X := Kept.mk (X.out.bar fp.1 NF.out); replace NF := Kept.mk (notin_step fp NF.out hlt); replace FP := Kept.mk (FP.out.trans fp); replace HE := Kept.mk he
    clear he fp KC hlt x0 x6
    have x0 := X.out.cell 0; have x5 := X.out.cell 5
    have KC := rnum_any w5 F5 e due 8 (0, (((((xs ++ be (2 : Int).toNat 1) ++ be (dst : Int).toNat 1) ++ be (asset : Int).toNat 1) ++ be (amount : Int).toNat 8) ++ hash)) HE.out (by simp only [List.length_append, be_len, h7]; omega)
    rw [rn8 _ h6.amt] at KC
    go_wp2_with fail
    refine KC.mono ?_
    rintro x w6 ⟨rfl, F6, he, fp⟩
    have hlt := X.out.lt
    replace X := Kept.mk (X.out.bar fp.1 NF.out); replace NF := Kept.mk (notin_step fp NF.out hlt); replace FP := Kept.mk (FP.out.trans fp); replace HE := Kept.mk he
    clear he fp KC hlt x0 x5
    have x0 := X.out.cell 0; have x7 := X.out.cell 7
    obtain ⟨v7, c7, hcv, r2, b2⟩ := to_bytes w6 [] (by intro x hx; simp at hx)
    have KC := rraw_any v7 F6 e (some ⟨w6.heap.size, 0, none⟩) 0 c7 [] (0, ((((((xs ++ be (2 : Int).toNat 1) ++ be (dst : Int).toNat 1) ++ be (asset : Int).toNat 1) ++ be (amount : Int).toNat 8) ++ hash) ++ be (due : Int).toNat 8)) (HE.out.below b2) r2 (by simp only [List.length_append, be_len, h7]; omega)
    replace FP := Kept.mk (FP.out.trans (F'' := F6) ⟨barOf b2 _, fun _ hk => .inl hk⟩); replace X := Kept.mk (X.out.below b2 X.out.lt)
    clear b2 r2
    go_wp2_with fail
    refine KC.mono ?_
    clear hcv
    rintro x w7 ⟨rfl, F7, he, fp⟩
    have hlt := X.out.lt
    replace X := Kept.mk (X.out.bar fp.1 NF.out); replace NF := Kept.mk (notin_step fp NF.out hlt); replace FP := Kept.mk (FP.out.trans fp); replace HE := Kept.mk he
    clear he fp KC hlt x0 x7
    go_wp2
    go_end0
    refine ⟨rfl, _, ?_, FP.out⟩
    have hp : xs ++ putR ⟨2, dst, asset, amount, 0, due, hash, []⟩ = (((((((xs ++ be (2 : Int).toNat 1) ++ be (dst : Int).toNat 1) ++ be (asset : Int).toNat 1) ++ be (amount : Int).toNat 8) ++ hash) ++ be (due : Int).toNat 8) ++ []) := by simp [putR, List.append_assoc]
    rw [hp]; exact HE.out
  · subst h1 h2 h3 h4 h6 h7
    have HE := Kept.mk (HE0.out (.cells #[.int .i64 3, .int .i64 0, .int .i64 0, .int .i64 0, .int .i64 id, .int .i64 0, .string (strOfNums []), .string (strOfNums sec)] 48)); have FP := Kept.mk (FP0.out (.cells #[.int .i64 3, .int .i64 0, .int .i64 0, .int .i64 0, .int .i64 id, .int .i64 0, .string (strOfNums []), .string (strOfNums sec)] 48)); have X := Kept.mk (X0.out #[.int .i64 3, .int .i64 0, .int .i64 0, .int .i64 0, .int .i64 id, .int .i64 0, .string (strOfNums []), .string (strOfNums sec)])
    go_enter Try.func33, Try.ntmps33
    go_upto_region 1 with (fail)
    generalize w.alloc (.cells #[.int .i64 3, .int .i64 0, .int .i64 0, .int .i64 0, .int .i64 id, .int .i64 0, .string (strOfNums []), .string (strOfNums sec)] 48) = w0 at *
    clear HE0 FP0 X0
    have x0 := X.out.cell 0
    have KC := rnum_any w0 F e 3 1 (0, xs) HE.out (by simp only; omega)
    rw [rn1 _ (show B8 3 from ⟨by omega, by omega⟩)] at KC
    go_wp2_with fail
    refine KC.mono ?_
    rintro x w1 ⟨rfl, F1, he, fp⟩
    have hlt := X.out.lt
    replace X := Kept.mk (X.out.bar fp.1 NF.out); replace NF := Kept.mk (notin_step fp NF.out hlt); replace FP := Kept.mk (FP.out.trans fp); replace HE := Kept.mk he
    clear he fp KC hlt x0
    have x0 := X.out.cell 0; have x4 := X.out.cell 4
    have KC := rnum_any w1 F1 e id 2 (0, (xs ++ be (3 : Int).toNat 1)) HE.out (by simp only [List.length_append, be_len]; omega)
    rw [rn2 _ h5] at KC
    go_wp2_with fail
    refine KC.mono ?_
    rintro x w2 ⟨rfl, F2, he, fp⟩
    have hlt := X.out.lt
    replace X := Kept.mk (X.out.bar fp.1 NF.out); replace NF := Kept.mk (notin_step fp NF.out hlt); replace FP := Kept.mk (FP.out.trans fp); replace HE := Kept.mk he
    clear he fp KC hlt x0 x4
    have x0 := X.out.cell 0; have x7 := X.out.cell 7
    obtain ⟨v3, c3, hcv, r2, b2⟩ := to_bytes w2 sec hb2
    rw [h8] at hcv r2
    have KC := rraw_any v3 F2 e (some ⟨w2.heap.size, 0, none⟩) 32 c3 sec (0, ((xs ++ be (3 : Int).toNat 1) ++ be (id : Int).toNat 2)) (HE.out.below b2) r2 (by simp only [List.length_append, be_len]; omega)
    replace FP := Kept.mk (FP.out.trans (F'' := F2) ⟨barOf b2 _, fun _ hk => .inl hk⟩); replace X := Kept.mk (X.out.below b2 X.out.lt)
    clear b2 r2
    go_wp2_with fail
    refine KC.mono ?_
    clear hcv
    rintro x w3 ⟨rfl, F3, he, fp⟩
    have hlt := X.out.lt
    replace X := Kept.mk (X.out.bar fp.1 NF.out); replace NF := Kept.mk (notin_step fp NF.out hlt); replace FP := Kept.mk (FP.out.trans fp); replace HE := Kept.mk he
    clear he fp KC hlt x0 x7
    go_wp2
    go_end0
    refine ⟨rfl, _, ?_, FP.out⟩
    have hp : xs ++ putR ⟨3, 0, 0, 0, id, 0, [], sec⟩ = (((xs ++ be (3 : Int).toNat 1) ++ be (id : Int).toNat 2) ++ sec) := by simp [putR, List.append_assoc]
    rw [hp]; exact HE.out
  · subst h1 h2 h3 h4 h6 h7 h8
    have HE := Kept.mk (HE0.out (.cells #[.int .i64 4, .int .i64 0, .int .i64 0, .int .i64 0, .int .i64 id, .int .i64 0, .string (strOfNums []), .string (strOfNums [])] 48)); have FP := Kept.mk (FP0.out (.cells #[.int .i64 4, .int .i64 0, .int .i64 0, .int .i64 0, .int .i64 id, .int .i64 0, .string (strOfNums []), .string (strOfNums [])] 48)); have X := Kept.mk (X0.out #[.int .i64 4, .int .i64 0, .int .i64 0, .int .i64 0, .int .i64 id, .int .i64 0, .string (strOfNums []), .string (strOfNums [])])
    go_enter Try.func33, Try.ntmps33
    go_upto_region 1 with (fail)
    generalize w.alloc (.cells #[.int .i64 4, .int .i64 0, .int .i64 0, .int .i64 0, .int .i64 id, .int .i64 0, .string (strOfNums []), .string (strOfNums [])] 48) = w0 at *
    clear HE0 FP0 X0
    have x0 := X.out.cell 0
    have KC := rnum_any w0 F e 4 1 (0, xs) HE.out (by simp only; omega)
    rw [rn1 _ (show B8 4 from ⟨by omega, by omega⟩)] at KC
    go_wp2_with fail
    refine KC.mono ?_
    rintro x w1 ⟨rfl, F1, he, fp⟩
    have hlt := X.out.lt
    replace X := Kept.mk (X.out.bar fp.1 NF.out); replace NF := Kept.mk (notin_step fp NF.out hlt); replace FP := Kept.mk (FP.out.trans fp); replace HE := Kept.mk he
    clear he fp KC hlt x0
    have x0 := X.out.cell 0; have x4 := X.out.cell 4
    have KC := rnum_any w1 F1 e id 2 (0, (xs ++ be (4 : Int).toNat 1)) HE.out (by simp only [List.length_append, be_len]; omega)
    rw [rn2 _ h5] at KC
    go_wp2_with fail
    refine KC.mono ?_
    rintro x w2 ⟨rfl, F2, he, fp⟩
    have hlt := X.out.lt
    replace X := Kept.mk (X.out.bar fp.1 NF.out); replace NF := Kept.mk (notin_step fp NF.out hlt); replace FP := Kept.mk (FP.out.trans fp); replace HE := Kept.mk he
    clear he fp KC hlt x0 x4
    have x0 := X.out.cell 0; have x7 := X.out.cell 7
    obtain ⟨v3, c3, hcv, r2, b2⟩ := to_bytes w2 [] (by intro x hx; simp at hx)
    have KC := rraw_any v3 F2 e (some ⟨w2.heap.size, 0, none⟩) 0 c3 [] (0, ((xs ++ be (4 : Int).toNat 1) ++ be (id : Int).toNat 2)) (HE.out.below b2) r2 (by simp only [List.length_append, be_len]; omega)
    replace FP := Kept.mk (FP.out.trans (F'' := F2) ⟨barOf b2 _, fun _ hk => .inl hk⟩); replace X := Kept.mk (X.out.below b2 X.out.lt)
    clear b2 r2
    go_wp2_with fail
    refine KC.mono ?_
    clear hcv
    rintro x w3 ⟨rfl, F3, he, fp⟩
    have hlt := X.out.lt
    replace X := Kept.mk (X.out.bar fp.1 NF.out); replace NF := Kept.mk (notin_step fp NF.out hlt); replace FP := Kept.mk (FP.out.trans fp); replace HE := Kept.mk he
    clear he fp KC hlt x0 x7
    go_wp2
    go_end0
    refine ⟨rfl, _, ?_, FP.out⟩
    have hp : xs ++ putR ⟨4, 0, 0, 0, id, 0, [], []⟩ = (((xs ++ be (4 : Int).toNat 1) ++ be (id : Int).toNat 2) ++ []) := by simp [putR, List.append_assoc]
    rw [hp]; exact HE.out
end Go.Proofs.Ytcafffnkkjnpbaa.Req

namespace Go.Proofs.Ytcafffnkkjnpbaa.Req
open Go.RowKit Go.Proofs.Ytcafffnkkjnpbaa.Sha Go.Proofs.Ytcafffnkkjnpbaa.Wire

theorem rawD_bytes {st : St} (h : Bytes st.2) (k : Nat) : Bytes (rawD st k).1 := by
  unfold rawD
  split
  · split
    · exact h.take k
    · intro x hx; simp at hx
  · intro x hx; simp at hx
theorem rawD_len (st : St) (k : Nat) : (rawD st k).2.2.length ≤ st.2.length := by
  unfold rawD
  split
  · split
    · simp
    · simp
  · simp
theorem decNum_left (st : St) (s : Int) : (decNum st s).2.2.length ≤ st.2.length := by
  unfold decNum
  split
  · split
    · split
      · simp
      · simp
    · simp
  · simp
theorem req_size : (Try.prog.info? 48).map (·.size) = some 8 := by kernel_rfl

def getRPost (w : World) (d : Nat) (G : List Nat) (st : St) (x : Ending) (w' : World) : Prop :=
  x = .returned (rqv (getR st).1) ∧ (getR st).1.ok ∧ De 72 w' d G (getR st).2 ∧ Bar [d] w w'
set_option maxRecDepth 100000 in
set_option maxHeartbeats 4000000 in
theorem rgetr_any {w : World} {d : Nat} {G : List Nat} {st : St} (h : De 72 w d G st) (hd : d ∉ G) (hl : st.2.length < 2147483648) : Calls Try.prog 41 #[.pointer (some ⟨d, 0, none⟩)] w (getRPost w d G st) := by
  obtain ⟨N, hN⟩ : ∃ N, w.heap.size = N := ⟨_, rfl⟩
  have hdN : d < N := by rw [← hN]; exact h.lt
  have B0 : Below w.heap.size w (w.alloc (.cells #[.int .i64 0, .int .i64 0, .int .i64 0, .int .i64 0, .int .i64 0, .int .i64 0, .string ⟨#[]⟩, .string ⟨#[]⟩] 48)) := (Below.refl _ _).alloc (Nat.le_refl _) _
  have HE := Kept.mk (h.below B0)
  have BR := Kept.mk (barOf B0 [d])
  have Y : Kept (Blk (w.alloc (.cells #[.int .i64 0, .int .i64 0, .int .i64 0, .int .i64 0, .int .i64 0, .int .i64 0, .string ⟨#[]⟩, .string ⟨#[]⟩] 48)) N 48 #[.int .i64 0, .int .i64 0, .int .i64 0, .int .i64 0, .int .i64 0, .int .i64 0, .string ⟨#[]⟩, .string ⟨#[]⟩]) := ⟨Blk.new_at w _ _ N hN.symm⟩
  have HM1 : Kept (∀ k ∈ G, k < N) := ⟨fun k hk => by have := h.1 k hk; omega⟩
  have n0 : Bytes [] := by intro x hx; simp at hx
  clear h B0
  go_enter Try.func41, Try.ntmps41
  go_wp2_with fail
  generalize w.alloc (.cells #[.int .i64 0, .int .i64 0, .int .i64 0, .int .i64 0, .int .i64 0, .int .i64 0, .string ⟨#[]⟩, .string ⟨#[]⟩] 48) = w0 at *
  have KC := rdnum_any w0 d G 1 st HE.out hd
  have hL := decNum_left st 1
  obtain ⟨a0, s1, e0⟩ : ∃ a s, decNum st 1 = (a, s) := ⟨_, _, rfl⟩
  rw [e0] at KC hL
  have E0 := Kept.mk e0
  dsimp only at hL
  clear e0
  refine KC.mono ?_
  rintro x w1 ⟨rfl, he, b⟩
  replace HE := Kept.mk he; replace BR := Kept.mk (BR.out.trans b (by simp)); replace Y := Kept.mk (Y.out.bar b (by rw [List.mem_singleton]; omega))
  have hNM := Y.out.lt
  clear he b KC
  go_upto_region 2 with (fail)
  have B1 : Below w1.heap.size w1 (w1.alloc (.cells #[.int .i64 a0, .int .i64 0, .int .i64 0, .int .i64 0, .int .i64 0, .int .i64 0, .string ⟨#[]⟩, .string ⟨#[]⟩] 48)) := (Below.refl _ _).alloc (Nat.le_refl _) _
  have X : Kept (Blk (w1.alloc (.cells #[.int .i64 a0, .int .i64 0, .int .i64 0, .int .i64 0, .int .i64 0, .int .i64 0, .string ⟨#[]⟩, .string ⟨#[]⟩] 48)) w1.heap.size 48 #[.int .i64 a0, .int .i64 0, .int .i64 0, .int .i64 0, .int .i64 0, .int .i64 0, .string ⟨#[]⟩, .string ⟨#[]⟩]) := ⟨Blk.new _ _ _⟩
  replace HE := Kept.mk (HE.out.below B1); replace BR := Kept.mk (BR.out.trans (barOf B1 []) (by simp)); replace Y := Kept.mk (Y.out.below B1 hNM)
  generalize w1.alloc (.cells #[.int .i64 a0, .int .i64 0, .int .i64 0, .int .i64 0, .int .i64 0, .int .i64 0, .string ⟨#[]⟩, .string ⟨#[]⟩] 48) = w2 at *
  generalize w1.heap.size = M at *
  clear B1
  have HM : Kept (∀ k ∈ G, k < M) := ⟨fun k hk => Nat.lt_trans (HM1.out k hk) hNM⟩
  have HM2 : Kept (∀ k ∈ G, k < N) := HM1
  by_cases h1 : a0 = 1
  · subst h1
    have x0 := X.out.cell 0
    have KC := rdnum_any w2 d G 1 s1 HE.out hd
    have hL2 := decNum_left s1 1
    obtain ⟨a1, s2, e1⟩ : ∃ a s, decNum s1 1 = (a, s) := ⟨_, _, rfl⟩
    rw [e1] at KC hL2
    have E1 := Kept.mk e1
    dsimp only at hL2
    replace hL := Nat.le_trans hL2 hL
    clear e1 hL2
    go_wp2_with fail
    refine KC.mono ?_
    rintro x w3 ⟨rfl, he, b⟩
    have hMl := X.out.lt
    replace HE := Kept.mk he; replace BR := Kept.mk (BR.out.trans b (by simp)); replace Y := Kept.mk (Y.out.bar b (by rw [List.mem_singleton]; omega)); replace X := Kept.mk (X.out.bar b (by rw [List.mem_singleton]; omega))
    clear he b KC hMl x0
    have x0 := X.out.cell 0
    have KC := rdnum_any w3 d G 1 s2 HE.out hd
    have hL2 := decNum_left s2 1
    obtain ⟨a2, s3, e2⟩ : ∃ a s, decNum s2 1 = (a, s) := ⟨_, _, rfl⟩
    rw [e2] at KC hL2
    have E2 := Kept.mk e2
    dsimp only at hL2
    replace hL := Nat.le_trans hL2 hL
    clear e2 hL2
    go_wp2_with fail
    refine KC.mono ?_
    rintro x w4 ⟨rfl, he, b⟩
    have hMl := X.out.lt
    replace HE := Kept.mk he; replace BR := Kept.mk (BR.out.trans b (by simp)); replace Y := Kept.mk (Y.out.bar b (by rw [List.mem_singleton]; omega)); replace X := Kept.mk (X.out.bar b (by rw [List.mem_singleton]; omega))
    clear he b KC hMl x0
    have x0 := X.out.cell 0
    have KC := rdnum_any w4 d G 8 s3 HE.out hd
    have hL2 := decNum_left s3 8
    obtain ⟨a3, s4, e3⟩ : ∃ a s, decNum s3 8 = (a, s) := ⟨_, _, rfl⟩
    rw [e3] at KC hL2
    have E3 := Kept.mk e3
    dsimp only at hL2
    replace hL := Nat.le_trans hL2 hL
    clear e3 hL2
    go_wp2_with fail
    refine KC.mono ?_
    rintro x w5 ⟨rfl, he, b⟩
    have hMl := X.out.lt
    replace HE := Kept.mk he; replace BR := Kept.mk (BR.out.trans b (by simp)); replace Y := Kept.mk (Y.out.bar b (by rw [List.mem_singleton]; omega)); replace X := Kept.mk (X.out.bar b (by rw [List.mem_singleton]; omega))
    clear he b KC hMl x0
    have y1 := X.out.cell 1; have z1 := X.out.frozen 1; have y2 := X.out.cell 2; have z2 := X.out.frozen 2; have y3 := X.out.cell 3; have z3 := X.out.frozen 3
    go_upto_region 4 with (fail)
    have X2 : Kept (Blk (((w5.setCell ⟨M, 1, none⟩ (.int .i64 a1)).setCell ⟨M, 2, none⟩ (.int .i64 a2)).setCell ⟨M, 3, none⟩ (.int .i64 a3)) M 48 #[.int .i64 1, .int .i64 a1, .int .i64 a2, .int .i64 a3, .int .i64 0, .int .i64 0, .string ⟨#[]⟩, .string ⟨#[]⟩]) := ⟨(((X.out.set_ 1 (.int .i64 a1)).set_ 2 (.int .i64 a2)).set_ 3 (.int .i64 a3))⟩
    have bb : Bar [M] w5 (((w5.setCell ⟨M, 1, none⟩ (.int .i64 a1)).setCell ⟨M, 2, none⟩ (.int .i64 a2)).setCell ⟨M, 3, none⟩ (.int .i64 a3)) := ((((Bar.refl [M] w5).setCell (p := ⟨M, 1, none⟩) (by simp) (.int .i64 a1)).setCell (p := ⟨M, 2, none⟩) (by simp) (.int .i64 a2)).setCell (p := ⟨M, 3, none⟩) (by simp) (.int .i64 a3))
    replace HE := Kept.mk (HE.out.keep bb (by rw [List.mem_singleton]; omega) (fun k hk hm => by rw [List.mem_singleton] at hm; have := HM.out k hk; omega))
    replace BR := Kept.mk (BR.out.trans bb (by intro z hz; rw [List.mem_singleton] at hz; omega)); replace Y := Kept.mk (Y.out.bar bb (by rw [List.mem_singleton]; omega))
    replace X := X2
    clear X2 bb y1 z1 y2 z2 y3 z3
    generalize (((w5.setCell ⟨M, 1, none⟩ (.int .i64 a1)).setCell ⟨M, 2, none⟩ (.int .i64 a2)).setCell ⟨M, 3, none⟩ (.int .i64 a3)) = w6 at *
    have x0 := X.out.cell 0; have x1 := X.out.cell 1; have x2 := X.out.cell 2; have x3 := X.out.cell 3; have x4 := X.out.cell 4; have x5 := X.out.cell 5; have x6 := X.out.cell 6; have x7 := X.out.cell 7; have y0 := Y.out.cell 0; have z0 := Y.out.frozen 0; have y1 := Y.out.cell 1; have z1 := Y.out.frozen 1; have y2 := Y.out.cell 2; have z2 := Y.out.frozen 2; have y3 := Y.out.cell 3; have z3 := Y.out.frozen 3; have y4 := Y.out.cell 4; have z4 := Y.out.frozen 4; have y5 := Y.out.cell 5; have z5 := Y.out.frozen 5; have y6 := Y.out.cell 6; have z6 := Y.out.frozen 6; have y7 := Y.out.cell 7; have z7 := Y.out.frozen 7
    have P8 : Kept (Blk ((((((((w6.setCell ⟨N, 0, none⟩ (.int .i64 1)).setCell ⟨N, 1, none⟩ (.int .i64 a1)).setCell ⟨N, 2, none⟩ (.int .i64 a2)).setCell ⟨N, 3, none⟩ (.int .i64 a3)).setCell ⟨N, 4, none⟩ (.int .i64 0)).setCell ⟨N, 5, none⟩ (.int .i64 0)).setCell ⟨N, 6, none⟩ (.string ⟨#[]⟩)).setCell ⟨N, 7, none⟩ (.string ⟨#[]⟩)) N 48 #[.int .i64 1, .int .i64 a1, .int .i64 a2, .int .i64 a3, .int .i64 0, .int .i64 0, .string ⟨#[]⟩, .string ⟨#[]⟩]) := ⟨((((((((Y.out.set_ 0 (.int .i64 1)).set_ 1 (.int .i64 a1)).set_ 2 (.int .i64 a2)).set_ 3 (.int .i64 a3)).set_ 4 (.int .i64 0)).set_ 5 (.int .i64 0)).set_ 6 (.string ⟨#[]⟩)).set_ 7 (.string ⟨#[]⟩))⟩
    have PB : Kept (Bar [N] w6 ((((((((w6.setCell ⟨N, 0, none⟩ (.int .i64 1)).setCell ⟨N, 1, none⟩ (.int .i64 a1)).setCell ⟨N, 2, none⟩ (.int .i64 a2)).setCell ⟨N, 3, none⟩ (.int .i64 a3)).setCell ⟨N, 4, none⟩ (.int .i64 0)).setCell ⟨N, 5, none⟩ (.int .i64 0)).setCell ⟨N, 6, none⟩ (.string ⟨#[]⟩)).setCell ⟨N, 7, none⟩ (.string ⟨#[]⟩))) := ⟨(((((((((Bar.refl [N] w6).setCell (p := ⟨N, 0, none⟩) (by simp) (.int .i64 1)).setCell (p := ⟨N, 1, none⟩) (by simp) (.int .i64 a1)).setCell (p := ⟨N, 2, none⟩) (by simp) (.int .i64 a2)).setCell (p := ⟨N, 3, none⟩) (by simp) (.int .i64 a3)).setCell (p := ⟨N, 4, none⟩) (by simp) (.int .i64 0)).setCell (p := ⟨N, 5, none⟩) (by simp) (.int .i64 0)).setCell (p := ⟨N, 6, none⟩) (by simp) (.string ⟨#[]⟩)).setCell (p := ⟨N, 7, none⟩) (by simp) (.string ⟨#[]⟩))⟩
    have HG : Kept (getR st = (⟨1, a1, a2, a3, 0, 0, [], []⟩, s4)) := ⟨by unfold getR; simp [E0.out, E1.out, E2.out, E3.out]⟩
    clear X Y
    go_wp2
    (try simp only [Exit.inBlock, Exit.then])
    refine bodyPost_ret (results_cell_row rfl _ _ N 48 #[.int .i64 1, .int .i64 a1, .int .i64 a2, .int .i64 a3, .int .i64 0, .int .i64 0, .string ⟨#[]⟩, .string ⟨#[]⟩] (0, 0) _ rfl P8.out Try.underlying48 rfl req_size) rfl ?_
    unfold getRPost
    rw [HG.out]
    exact ⟨rfl, ⟨n0, n0⟩, HE.out.keep PB.out (by rw [List.mem_singleton]; omega) (fun k hk hm => by rw [List.mem_singleton] at hm; have := HM2.out k hk; omega), BR.out.trans PB.out (by intro z hz; rw [List.mem_singleton] at hz; omega)⟩
  · have d1 : (a0 == 1) = false := beq_eq_false_iff_ne.2 h1
    by_cases h2 : a0 = 2
    · subst h2
      have x0 := X.out.cell 0
      have KC := rdnum_any w2 d G 1 s1 HE.out hd
      have hL2 := decNum_left s1 1
      obtain ⟨a1, s2, e1⟩ : ∃ a s, decNum s1 1 = (a, s) := ⟨_, _, rfl⟩
      rw [e1] at KC hL2
      have E1 := Kept.mk e1
      dsimp only at hL2
      replace hL := Nat.le_trans hL2 hL
      clear e1 hL2
      go_wp2_with fail
      refine KC.mono ?_
      rintro x w3 ⟨rfl, he, b⟩
      have hMl := X.out.lt
      replace HE := Kept.mk he; replace BR := Kept.mk (BR.out.trans b (by simp)); replace Y := Kept.mk (Y.out.bar b (by rw [List.mem_singleton]; omega)); replace X := Kept.mk (X.out.bar b (by rw [List.mem_singleton]; omega))
      clear he b KC hMl x0
      have x0 := X.out.cell 0
      have KC := rdnum_any w3 d G 1 s2 HE.out hd
      have hL2 := decNum_left s2 1
      obtain ⟨a2, s3, e2⟩ : ∃ a s, decNum s2 1 = (a, s) := ⟨_, _, rfl⟩
      rw [e2] at KC hL2
      have E2 := Kept.mk e2
      dsimp only at hL2
      replace hL := Nat.le_trans hL2 hL
      clear e2 hL2
      go_wp2_with fail
      refine KC.mono ?_
      rintro x w4 ⟨rfl, he, b⟩
      have hMl := X.out.lt
      replace HE := Kept.mk he; replace BR := Kept.mk (BR.out.trans b (by simp)); replace Y := Kept.mk (Y.out.bar b (by rw [List.mem_singleton]; omega)); replace X := Kept.mk (X.out.bar b (by rw [List.mem_singleton]; omega))
      clear he b KC hMl x0
      have x0 := X.out.cell 0
      have KC := rdnum_any w4 d G 8 s3 HE.out hd
      have hL2 := decNum_left s3 8
      obtain ⟨a3, s4, e3⟩ : ∃ a s, decNum s3 8 = (a, s) := ⟨_, _, rfl⟩
      rw [e3] at KC hL2
      have E3 := Kept.mk e3
      dsimp only at hL2
      replace hL := Nat.le_trans hL2 hL
      clear e3 hL2
      go_wp2_with fail
      refine KC.mono ?_
      rintro x w5 ⟨rfl, he, b⟩
      have hMl := X.out.lt
      replace HE := Kept.mk he; replace BR := Kept.mk (BR.out.trans b (by simp)); replace Y := Kept.mk (Y.out.bar b (by rw [List.mem_singleton]; omega)); replace X := Kept.mk (X.out.bar b (by rw [List.mem_singleton]; omega))
      clear he b KC hMl x0
      have y1 := X.out.cell 1; have z1 := X.out.frozen 1; have y2 := X.out.cell 2; have z2 := X.out.frozen 2; have y3 := X.out.cell 3; have z3 := X.out.frozen 3
      go_upto_region 4 with (fail)
      have X2 : Kept (Blk (((w5.setCell ⟨M, 1, none⟩ (.int .i64 a1)).setCell ⟨M, 2, none⟩ (.int .i64 a2)).setCell ⟨M, 3, none⟩ (.int .i64 a3)) M 48 #[.int .i64 2, .int .i64 a1, .int .i64 a2, .int .i64 a3, .int .i64 0, .int .i64 0, .string ⟨#[]⟩, .string ⟨#[]⟩]) := ⟨(((X.out.set_ 1 (.int .i64 a1)).set_ 2 (.int .i64 a2)).set_ 3 (.int .i64 a3))⟩
      have bb : Bar [M] w5 (((w5.setCell ⟨M, 1, none⟩ (.int .i64 a1)).setCell ⟨M, 2, none⟩ (.int .i64 a2)).setCell ⟨M, 3, none⟩ (.int .i64 a3)) := ((((Bar.refl [M] w5).setCell (p := ⟨M, 1, none⟩) (by simp) (.int .i64 a1)).setCell (p := ⟨M, 2, none⟩) (by simp) (.int .i64 a2)).setCell (p := ⟨M, 3, none⟩) (by simp) (.int .i64 a3))
      replace HE := Kept.mk (HE.out.keep bb (by rw [List.mem_singleton]; omega) (fun k hk hm => by rw [List.mem_singleton] at hm; have := HM.out k hk; omega))
      replace BR := Kept.mk (BR.out.trans bb (by intro z hz; rw [List.mem_singleton] at hz; omega)); replace Y := Kept.mk (Y.out.bar bb (by rw [List.mem_singleton]; omega))
      replace X := X2
      clear X2 bb y1 z1 y2 z2 y3 z3
      generalize (((w5.setCell ⟨M, 1, none⟩ (.int .i64 a1)).setCell ⟨M, 2, none⟩ (.int .i64 a2)).setCell ⟨M, 3, none⟩ (.int .i64 a3)) = w6 at *
      have x0 := X.out.cell 0
      have KC := rdraw_any w6 d G 32 s4 HE.out hd (by omega)
      unfold RawPost at KC
      have hL2 := rawD_len s4 32; have hB := rawD_bytes HE.out.bytes 32
      obtain ⟨a4, s5, e4⟩ : ∃ a s, rawD s4 32 = (a, s) := ⟨_, _, rfl⟩
      rw [e4] at hB
      rw [e4] at KC hL2
      have E4 := Kept.mk e4
      dsimp only at hL2 hB
      replace hL := Nat.le_trans hL2 hL
      clear e4 hL2
      go_wp2_with fail
      refine KC.mono ?_
      rintro x w7 ⟨v, rfl, ho, he, b⟩
      obtain ⟨A3, c3, rfl, -, -, hr⟩ := own_rd ho hB
      have hcv := conv_same (cap := c3) hr
      clear ho hr
      have hMl := X.out.lt
      replace HE := Kept.mk he; replace BR := Kept.mk (BR.out.trans b (by simp)); replace Y := Kept.mk (Y.out.bar b (by rw [List.mem_singleton]; omega)); replace X := Kept.mk (X.out.bar b (by rw [List.mem_singleton]; omega))
      clear he b KC hMl x0
      have Bhash := Kept.mk hB; clear hB
      have y6 := X.out.cell 6; have z6 := X.out.frozen 6
      go_upto_region 6 with (fail)
      have X2 : Kept (Blk (w7.setCell ⟨M, 6, none⟩ (.string (strOfNums a4))) M 48 #[.int .i64 2, .int .i64 a1, .int .i64 a2, .int .i64 a3, .int .i64 0, .int .i64 0, .string (strOfNums a4), .string ⟨#[]⟩]) := ⟨(X.out.set_ 6 (.string (strOfNums a4)))⟩
      have bb : Bar [M] w7 (w7.setCell ⟨M, 6, none⟩ (.string (strOfNums a4))) := ((Bar.refl [M] w7).setCell (p := ⟨M, 6, none⟩) (by simp) (.string (strOfNums a4)))
      replace HE := Kept.mk (HE.out.keep bb (by rw [List.mem_singleton]; omega) (fun k hk hm => by rw [List.mem_singleton] at hm; have := HM.out k hk; omega))
      replace BR := Kept.mk (BR.out.trans bb (by intro z hz; rw [List.mem_singleton] at hz; omega)); replace Y := Kept.mk (Y.out.bar bb (by rw [List.mem_singleton]; omega))
      replace X := X2
      clear X2 bb y6 z6 hcv
      generalize (w7.setCell ⟨M, 6, none⟩ (.string (strOfNums a4))) = w8 at *
      have x0 := X.out.cell 0
      have KC := rdnum_any w8 d G 8 s5 HE.out hd
      have hL2 := decNum_left s5 8
      obtain ⟨a5, s6, e5⟩ : ∃ a s, decNum s5 8 = (a, s) := ⟨_, _, rfl⟩
      rw [e5] at KC hL2
      have E5 := Kept.mk e5
      dsimp only at hL2
      replace hL := Nat.le_trans hL2 hL
      clear e5 hL2
      go_wp2_with fail
      refine KC.mono ?_
      rintro x w9 ⟨rfl, he, b⟩
      have hMl := X.out.lt
      replace HE := Kept.mk he; replace BR := Kept.mk (BR.out.trans b (by simp)); replace Y := Kept.mk (Y.out.bar b (by rw [List.mem_singleton]; omega)); replace X := Kept.mk (X.out.bar b (by rw [List.mem_singleton]; omega))
      clear he b KC hMl x0
      have y5 := X.out.cell 5; have z5 := X.out.frozen 5
      go_upto_region 7 with (fail)
      have X2 : Kept (Blk (w9.setCell ⟨M, 5, none⟩ (.int .i64 a5)) M 48 #[.int .i64 2, .int .i64 a1, .int .i64 a2, .int .i64 a3, .int .i64 0, .int .i64 a5, .string (strOfNums a4), .string ⟨#[]⟩]) := ⟨(X.out.set_ 5 (.int .i64 a5))⟩
      have bb : Bar [M] w9 (w9.setCell ⟨M, 5, none⟩ (.int .i64 a5)) := ((Bar.refl [M] w9).setCell (p := ⟨M, 5, none⟩) (by simp) (.int .i64 a5))
      replace HE := Kept.mk (HE.out.keep bb (by rw [List.mem_singleton]; omega) (fun k hk hm => by rw [List.mem_singleton] at hm; have := HM.out k hk; omega))
      replace BR := Kept.mk (BR.out.trans bb (by intro z hz; rw [List.mem_singleton] at hz; omega)); replace Y := Kept.mk (Y.out.bar bb (by rw [List.mem_singleton]; omega))
      replace X := X2
      clear X2 bb y5 z5
      generalize (w9.setCell ⟨M, 5, none⟩ (.int .i64 a5)) = w10 at *
      have x0 := X.out.cell 0; have x1 := X.out.cell 1; have x2 := X.out.cell 2; have x3 := X.out.cell 3; have x4 := X.out.cell 4; have x5 := X.out.cell 5; have x6 := X.out.cell 6; have x7 := X.out.cell 7; have y0 := Y.out.cell 0; have z0 := Y.out.frozen 0; have y1 := Y.out.cell 1; have z1 := Y.out.frozen 1; have y2 := Y.out.cell 2; have z2 := Y.out.frozen 2; have y3 := Y.out.cell 3; have z3 := Y.out.frozen 3; have y4 := Y.out.cell 4; have z4 := Y.out.frozen 4; have y5 := Y.out.cell 5; have z5 := Y.out.frozen 5; have y6 := Y.out.cell 6; have z6 := Y.out.frozen 6; have y7 := Y.out.cell 7; have z7 := Y.out.frozen 7
      have P8 : Kept (Blk ((((((((w10.setCell ⟨N, 0, none⟩ (.int .i64 2)).setCell ⟨N, 1, none⟩ (.int .i64 a1)).setCell ⟨N, 2, none⟩ (.int .i64 a2)).setCell ⟨N, 3, none⟩ (.int .i64 a3)).setCell ⟨N, 4, none⟩ (.int .i64 0)).setCell ⟨N, 5, none⟩ (.int .i64 a5)).setCell ⟨N, 6, none⟩ (.string (strOfNums a4))).setCell ⟨N, 7, none⟩ (.string ⟨#[]⟩)) N 48 #[.int .i64 2, .int .i64 a1, .int .i64 a2, .int .i64 a3, .int .i64 0, .int .i64 a5, .string (strOfNums a4), .string ⟨#[]⟩]) := ⟨((((((((Y.out.set_ 0 (.int .i64 2)).set_ 1 (.int .i64 a1)).set_ 2 (.int .i64 a2)).set_ 3 (.int .i64 a3)).set_ 4 (.int .i64 0)).set_ 5 (.int .i64 a5)).set_ 6 (.string (strOfNums a4))).set_ 7 (.string ⟨#[]⟩))⟩
      have PB : Kept (Bar [N] w10 ((((((((w10.setCell ⟨N, 0, none⟩ (.int .i64 2)).setCell ⟨N, 1, none⟩ (.int .i64 a1)).setCell ⟨N, 2, none⟩ (.int .i64 a2)).setCell ⟨N, 3, none⟩ (.int .i64 a3)).setCell ⟨N, 4, none⟩ (.int .i64 0)).setCell ⟨N, 5, none⟩ (.int .i64 a5)).setCell ⟨N, 6, none⟩ (.string (strOfNums a4))).setCell ⟨N, 7, none⟩ (.string ⟨#[]⟩))) := ⟨(((((((((Bar.refl [N] w10).setCell (p := ⟨N, 0, none⟩) (by simp) (.int .i64 2)).setCell (p := ⟨N, 1, none⟩) (by simp) (.int .i64 a1)).setCell (p := ⟨N, 2, none⟩) (by simp) (.int .i64 a2)).setCell (p := ⟨N, 3, none⟩) (by simp) (.int .i64 a3)).setCell (p := ⟨N, 4, none⟩) (by simp) (.int .i64 0)).setCell (p := ⟨N, 5, none⟩) (by simp) (.int .i64 a5)).setCell (p := ⟨N, 6, none⟩) (by simp) (.string (strOfNums a4))).setCell (p := ⟨N, 7, none⟩) (by simp) (.string ⟨#[]⟩))⟩
      have HG : Kept (getR st = (⟨2, a1, a2, a3, 0, a5, a4, []⟩, s6)) := ⟨by unfold getR; simp [E0.out, E1.out, E2.out, E3.out, E4.out, E5.out]⟩
      clear X Y
      go_wp2
      (try simp only [Exit.inBlock, Exit.then])
      refine bodyPost_ret (results_cell_row rfl _ _ N 48 #[.int .i64 2, .int .i64 a1, .int .i64 a2, .int .i64 a3, .int .i64 0, .int .i64 a5, .string (strOfNums a4), .string ⟨#[]⟩] (0, 0) _ rfl P8.out Try.underlying48 rfl req_size) rfl ?_
      unfold getRPost
      rw [HG.out]
      exact ⟨rfl, ⟨Bhash.out, n0⟩, HE.out.keep PB.out (by rw [List.mem_singleton]; omega) (fun k hk hm => by rw [List.mem_singleton] at hm; have := HM2.out k hk; omega), BR.out.trans PB.out (by intro z hz; rw [List.mem_singleton] at hz; omega)⟩
    · have d2 : (a0 == 2) = false := beq_eq_false_iff_ne.2 h2
      by_cases h3 : a0 = 3
      · subst h3
        have x0 := X.out.cell 0
        have KC := rdnum_any w2 d G 2 s1 HE.out hd
        have hL2 := decNum_left s1 2
        obtain ⟨a1, s2, e1⟩ : ∃ a s, decNum s1 2 = (a, s) := ⟨_, _, rfl⟩
        rw [e1] at KC hL2
        have E1 := Kept.mk e1
        dsimp only at hL2
        replace hL := Nat.le_trans hL2 hL
        clear e1 hL2
        go_wp2_with fail
        refine KC.mono ?_
        rintro x w3 ⟨rfl, he, b⟩
        have hMl := X.out.lt
        replace HE := Kept.mk he; replace BR := Kept.mk (BR.out.trans b (by simp)); replace Y := Kept.mk (Y.out.bar b (by rw [List.mem_singleton]; omega)); replace X := Kept.mk (X.out.bar b (by rw [List.mem_singleton]; omega))
        clear he b KC hMl x0
        have y4 := X.out.cell 4; have z4 := X.out.frozen 4
        go_upto_region 9 with (fail)
        have X2 : Kept (Blk (w3.setCell ⟨M, 4, none⟩ (.int .i64 a1)) M 48 #[.int .i64 3, .int .i64 0, .int .i64 0, .int .i64 0, .int .i64 a1, .int .i64 0, .string ⟨#[]⟩, .string ⟨#[]⟩]) := ⟨(X.out.set_ 4 (.int .i64 a1))⟩
        have bb : Bar [M] w3 (w3.setCell ⟨M, 4, none⟩ (.int .i64 a1)) := ((Bar.refl [M] w3).setCell (p := ⟨M, 4, none⟩) (by simp) (.int .i64 a1))
        replace HE := Kept.mk (HE.out.keep bb (by rw [List.mem_singleton]; omega) (fun k hk hm => by rw [List.mem_singleton] at hm; have := HM.out k hk; omega))
        replace BR := Kept.mk (BR.out.trans bb (by intro z hz; rw [List.mem_singleton] at hz; omega)); replace Y := Kept.mk (Y.out.bar bb (by rw [List.mem_singleton]; omega))
        replace X := X2
        clear X2 bb y4 z4
        generalize (w3.setCell ⟨M, 4, none⟩ (.int .i64 a1)) = w4 at *
        have x0 := X.out.cell 0
        have KC := rdraw_any w4 d G 32 s2 HE.out hd (by omega)
        unfold RawPost at KC
        have hL2 := rawD_len s2 32; have hB := rawD_bytes HE.out.bytes 32
        obtain ⟨a2, s3, e2⟩ : ∃ a s, rawD s2 32 = (a, s) := ⟨_, _, rfl⟩
        rw [e2] at hB
        rw [e2] at KC hL2
        have E2 := Kept.mk e2
        dsimp only at hL2 hB
        replace hL := Nat.le_trans hL2 hL
        clear e2 hL2
        go_wp2_with fail
        refine KC.mono ?_
        rintro x w5 ⟨v, rfl, ho, he, b⟩
        obtain ⟨A1, c1, rfl, -, -, hr⟩ := own_rd ho hB
        have hcv := conv_same (cap := c1) hr
        clear ho hr
        have hMl := X.out.lt
        replace HE := Kept.mk he; replace BR := Kept.mk (BR.out.trans b (by simp)); replace Y := Kept.mk (Y.out.bar b (by rw [List.mem_singleton]; omega)); replace X := Kept.mk (X.out.bar b (by rw [List.mem_singleton]; omega))
        clear he b KC hMl x0
        have Bsec := Kept.mk hB; clear hB
        have y7 := X.out.cell 7; have z7 := X.out.frozen 7
        go_upto_region 11 with (fail)
        have X2 : Kept (Blk (w5.setCell ⟨M, 7, none⟩ (.string (strOfNums a2))) M 48 #[.int .i64 3, .int .i64 0, .int .i64 0, .int .i64 0, .int .i64 a1, .int .i64 0, .string ⟨#[]⟩, .string (strOfNums a2)]) := ⟨(X.out.set_ 7 (.string (strOfNums a2)))⟩
        have bb : Bar [M] w5 (w5.setCell ⟨M, 7, none⟩ (.string (strOfNums a2))) := ((Bar.refl [M] w5).setCell (p := ⟨M, 7, none⟩) (by simp) (.string (strOfNums a2)))
        replace HE := Kept.mk (HE.out.keep bb (by rw [List.mem_singleton]; omega) (fun k hk hm => by rw [List.mem_singleton] at hm; have := HM.out k hk; omega))
        replace BR := Kept.mk (BR.out.trans bb (by intro z hz; rw [List.mem_singleton] at hz; omega)); replace Y := Kept.mk (Y.out.bar bb (by rw [List.mem_singleton]; omega))
        replace X := X2
        clear X2 bb y7 z7 hcv
        generalize (w5.setCell ⟨M, 7, none⟩ (.string (strOfNums a2))) = w6 at *
        have x0 := X.out.cell 0; have x1 := X.out.cell 1; have x2 := X.out.cell 2; have x3 := X.out.cell 3; have x4 := X.out.cell 4; have x5 := X.out.cell 5; have x6 := X.out.cell 6; have x7 := X.out.cell 7; have y0 := Y.out.cell 0; have z0 := Y.out.frozen 0; have y1 := Y.out.cell 1; have z1 := Y.out.frozen 1; have y2 := Y.out.cell 2; have z2 := Y.out.frozen 2; have y3 := Y.out.cell 3; have z3 := Y.out.frozen 3; have y4 := Y.out.cell 4; have z4 := Y.out.frozen 4; have y5 := Y.out.cell 5; have z5 := Y.out.frozen 5; have y6 := Y.out.cell 6; have z6 := Y.out.frozen 6; have y7 := Y.out.cell 7; have z7 := Y.out.frozen 7
        have P8 : Kept (Blk ((((((((w6.setCell ⟨N, 0, none⟩ (.int .i64 3)).setCell ⟨N, 1, none⟩ (.int .i64 0)).setCell ⟨N, 2, none⟩ (.int .i64 0)).setCell ⟨N, 3, none⟩ (.int .i64 0)).setCell ⟨N, 4, none⟩ (.int .i64 a1)).setCell ⟨N, 5, none⟩ (.int .i64 0)).setCell ⟨N, 6, none⟩ (.string ⟨#[]⟩)).setCell ⟨N, 7, none⟩ (.string (strOfNums a2))) N 48 #[.int .i64 3, .int .i64 0, .int .i64 0, .int .i64 0, .int .i64 a1, .int .i64 0, .string ⟨#[]⟩, .string (strOfNums a2)]) := ⟨((((((((Y.out.set_ 0 (.int .i64 3)).set_ 1 (.int .i64 0)).set_ 2 (.int .i64 0)).set_ 3 (.int .i64 0)).set_ 4 (.int .i64 a1)).set_ 5 (.int .i64 0)).set_ 6 (.string ⟨#[]⟩)).set_ 7 (.string (strOfNums a2)))⟩
        have PB : Kept (Bar [N] w6 ((((((((w6.setCell ⟨N, 0, none⟩ (.int .i64 3)).setCell ⟨N, 1, none⟩ (.int .i64 0)).setCell ⟨N, 2, none⟩ (.int .i64 0)).setCell ⟨N, 3, none⟩ (.int .i64 0)).setCell ⟨N, 4, none⟩ (.int .i64 a1)).setCell ⟨N, 5, none⟩ (.int .i64 0)).setCell ⟨N, 6, none⟩ (.string ⟨#[]⟩)).setCell ⟨N, 7, none⟩ (.string (strOfNums a2)))) := ⟨(((((((((Bar.refl [N] w6).setCell (p := ⟨N, 0, none⟩) (by simp) (.int .i64 3)).setCell (p := ⟨N, 1, none⟩) (by simp) (.int .i64 0)).setCell (p := ⟨N, 2, none⟩) (by simp) (.int .i64 0)).setCell (p := ⟨N, 3, none⟩) (by simp) (.int .i64 0)).setCell (p := ⟨N, 4, none⟩) (by simp) (.int .i64 a1)).setCell (p := ⟨N, 5, none⟩) (by simp) (.int .i64 0)).setCell (p := ⟨N, 6, none⟩) (by simp) (.string ⟨#[]⟩)).setCell (p := ⟨N, 7, none⟩) (by simp) (.string (strOfNums a2)))⟩
        have HG : Kept (getR st = (⟨3, 0, 0, 0, a1, 0, [], a2⟩, s3)) := ⟨by unfold getR; simp [E0.out, E1.out, E2.out]⟩
        clear X Y
        go_wp2
        (try simp only [Exit.inBlock, Exit.then])
        refine bodyPost_ret (results_cell_row rfl _ _ N 48 #[.int .i64 3, .int .i64 0, .int .i64 0, .int .i64 0, .int .i64 a1, .int .i64 0, .string ⟨#[]⟩, .string (strOfNums a2)] (0, 0) _ rfl P8.out Try.underlying48 rfl req_size) rfl ?_
        unfold getRPost
        rw [HG.out]
        exact ⟨rfl, ⟨n0, Bsec.out⟩, HE.out.keep PB.out (by rw [List.mem_singleton]; omega) (fun k hk hm => by rw [List.mem_singleton] at hm; have := HM2.out k hk; omega), BR.out.trans PB.out (by intro z hz; rw [List.mem_singleton] at hz; omega)⟩
      · have d3 : (a0 == 3) = false := beq_eq_false_iff_ne.2 h3
        by_cases h4 : 2 < a0
        · skip
          have x0 := X.out.cell 0
          have KC := rdnum_any w2 d G 2 s1 HE.out hd
          have hL2 := decNum_left s1 2
          obtain ⟨a1, s2, e1⟩ : ∃ a s, decNum s1 2 = (a, s) := ⟨_, _, rfl⟩
          rw [e1] at KC hL2
          have E1 := Kept.mk e1
          dsimp only at hL2
          replace hL := Nat.le_trans hL2 hL
          clear e1 hL2
          go_wp2_with fail
          refine KC.mono ?_
          rintro x w3 ⟨rfl, he, b⟩
          have hMl := X.out.lt
          replace HE := Kept.mk he; replace BR := Kept.mk (BR.out.trans b (by simp)); replace Y := Kept.mk (Y.out.bar b (by rw [List.mem_singleton]; omega)); replace X := Kept.mk (X.out.bar b (by rw [List.mem_singleton]; omega))
          clear he b KC hMl x0
          have y4 := X.out.cell 4; have z4 := X.out.frozen 4
          go_upto_region 9 with (fail)
          have X2 : Kept (Blk (w3.setCell ⟨M, 4, none⟩ (.int .i64 a1)) M 48 #[.int .i64 a0, .int .i64 0, .int .i64 0, .int .i64 0, .int .i64 a1, .int .i64 0, .string ⟨#[]⟩, .string ⟨#[]⟩]) := ⟨(X.out.set_ 4 (.int .i64 a1))⟩
          have bb : Bar [M] w3 (w3.setCell ⟨M, 4, none⟩ (.int .i64 a1)) := ((Bar.refl [M] w3).setCell (p := ⟨M, 4, none⟩) (by simp) (.int .i64 a1))
          replace HE := Kept.mk (HE.out.keep bb (by rw [List.mem_singleton]; omega) (fun k hk hm => by rw [List.mem_singleton] at hm; have := HM.out k hk; omega))
          replace BR := Kept.mk (BR.out.trans bb (by intro z hz; rw [List.mem_singleton] at hz; omega)); replace Y := Kept.mk (Y.out.bar bb (by rw [List.mem_singleton]; omega))
          replace X := X2
          clear X2 bb y4 z4
          generalize (w3.setCell ⟨M, 4, none⟩ (.int .i64 a1)) = w4 at *
          have x0 := X.out.cell 0; have x1 := X.out.cell 1; have x2 := X.out.cell 2; have x3 := X.out.cell 3; have x4 := X.out.cell 4; have x5 := X.out.cell 5; have x6 := X.out.cell 6; have x7 := X.out.cell 7; have y0 := Y.out.cell 0; have z0 := Y.out.frozen 0; have y1 := Y.out.cell 1; have z1 := Y.out.frozen 1; have y2 := Y.out.cell 2; have z2 := Y.out.frozen 2; have y3 := Y.out.cell 3; have z3 := Y.out.frozen 3; have y4 := Y.out.cell 4; have z4 := Y.out.frozen 4; have y5 := Y.out.cell 5; have z5 := Y.out.frozen 5; have y6 := Y.out.cell 6; have z6 := Y.out.frozen 6; have y7 := Y.out.cell 7; have z7 := Y.out.frozen 7
          have P8 : Kept (Blk ((((((((w4.setCell ⟨N, 0, none⟩ (.int .i64 a0)).setCell ⟨N, 1, none⟩ (.int .i64 0)).setCell ⟨N, 2, none⟩ (.int .i64 0)).setCell ⟨N, 3, none⟩ (.int .i64 0)).setCell ⟨N, 4, none⟩ (.int .i64 a1)).setCell ⟨N, 5, none⟩ (.int .i64 0)).setCell ⟨N, 6, none⟩ (.string ⟨#[]⟩)).setCell ⟨N, 7, none⟩ (.string ⟨#[]⟩)) N 48 #[.int .i64 a0, .int .i64 0, .int .i64 0, .int .i64 0, .int .i64 a1, .int .i64 0, .string ⟨#[]⟩, .string ⟨#[]⟩]) := ⟨((((((((Y.out.set_ 0 (.int .i64 a0)).set_ 1 (.int .i64 0)).set_ 2 (.int .i64 0)).set_ 3 (.int .i64 0)).set_ 4 (.int .i64 a1)).set_ 5 (.int .i64 0)).set_ 6 (.string ⟨#[]⟩)).set_ 7 (.string ⟨#[]⟩))⟩
          have PB : Kept (Bar [N] w4 ((((((((w4.setCell ⟨N, 0, none⟩ (.int .i64 a0)).setCell ⟨N, 1, none⟩ (.int .i64 0)).setCell ⟨N, 2, none⟩ (.int .i64 0)).setCell ⟨N, 3, none⟩ (.int .i64 0)).setCell ⟨N, 4, none⟩ (.int .i64 a1)).setCell ⟨N, 5, none⟩ (.int .i64 0)).setCell ⟨N, 6, none⟩ (.string ⟨#[]⟩)).setCell ⟨N, 7, none⟩ (.string ⟨#[]⟩))) := ⟨(((((((((Bar.refl [N] w4).setCell (p := ⟨N, 0, none⟩) (by simp) (.int .i64 a0)).setCell (p := ⟨N, 1, none⟩) (by simp) (.int .i64 0)).setCell (p := ⟨N, 2, none⟩) (by simp) (.int .i64 0)).setCell (p := ⟨N, 3, none⟩) (by simp) (.int .i64 0)).setCell (p := ⟨N, 4, none⟩) (by simp) (.int .i64 a1)).setCell (p := ⟨N, 5, none⟩) (by simp) (.int .i64 0)).setCell (p := ⟨N, 6, none⟩) (by simp) (.string ⟨#[]⟩)).setCell (p := ⟨N, 7, none⟩) (by simp) (.string ⟨#[]⟩))⟩
          have HG : Kept (getR st = (⟨a0, 0, 0, 0, a1, 0, [], []⟩, s2)) := ⟨by unfold getR; simp [E0.out, E1.out, h1, h2, h3, h4]⟩
          clear X Y
          go_wp2
          (try simp only [Exit.inBlock, Exit.then])
          refine bodyPost_ret (results_cell_row rfl _ _ N 48 #[.int .i64 a0, .int .i64 0, .int .i64 0, .int .i64 0, .int .i64 a1, .int .i64 0, .string ⟨#[]⟩, .string ⟨#[]⟩] (0, 0) _ rfl P8.out Try.underlying48 rfl req_size) rfl ?_
          unfold getRPost
          rw [HG.out]
          exact ⟨rfl, ⟨n0, n0⟩, HE.out.keep PB.out (by rw [List.mem_singleton]; omega) (fun k hk hm => by rw [List.mem_singleton] at hm; have := HM2.out k hk; omega), BR.out.trans PB.out (by intro z hz; rw [List.mem_singleton] at hz; omega)⟩
        · have h4' : ¬ 2 < a0 := h4
          have x0 := X.out.cell 0; have x1 := X.out.cell 1; have x2 := X.out.cell 2; have x3 := X.out.cell 3; have x4 := X.out.cell 4; have x5 := X.out.cell 5; have x6 := X.out.cell 6; have x7 := X.out.cell 7; have y0 := Y.out.cell 0; have z0 := Y.out.frozen 0; have y1 := Y.out.cell 1; have z1 := Y.out.frozen 1; have y2 := Y.out.cell 2; have z2 := Y.out.frozen 2; have y3 := Y.out.cell 3; have z3 := Y.out.frozen 3; have y4 := Y.out.cell 4; have z4 := Y.out.frozen 4; have y5 := Y.out.cell 5; have z5 := Y.out.frozen 5; have y6 := Y.out.cell 6; have z6 := Y.out.frozen 6; have y7 := Y.out.cell 7; have z7 := Y.out.frozen 7
          have P8 : Kept (Blk ((((((((w2.setCell ⟨N, 0, none⟩ (.int .i64 a0)).setCell ⟨N, 1, none⟩ (.int .i64 0)).setCell ⟨N, 2, none⟩ (.int .i64 0)).setCell ⟨N, 3, none⟩ (.int .i64 0)).setCell ⟨N, 4, none⟩ (.int .i64 0)).setCell ⟨N, 5, none⟩ (.int .i64 0)).setCell ⟨N, 6, none⟩ (.string ⟨#[]⟩)).setCell ⟨N, 7, none⟩ (.string ⟨#[]⟩)) N 48 #[.int .i64 a0, .int .i64 0, .int .i64 0, .int .i64 0, .int .i64 0, .int .i64 0, .string ⟨#[]⟩, .string ⟨#[]⟩]) := ⟨((((((((Y.out.set_ 0 (.int .i64 a0)).set_ 1 (.int .i64 0)).set_ 2 (.int .i64 0)).set_ 3 (.int .i64 0)).set_ 4 (.int .i64 0)).set_ 5 (.int .i64 0)).set_ 6 (.string ⟨#[]⟩)).set_ 7 (.string ⟨#[]⟩))⟩
          have PB : Kept (Bar [N] w2 ((((((((w2.setCell ⟨N, 0, none⟩ (.int .i64 a0)).setCell ⟨N, 1, none⟩ (.int .i64 0)).setCell ⟨N, 2, none⟩ (.int .i64 0)).setCell ⟨N, 3, none⟩ (.int .i64 0)).setCell ⟨N, 4, none⟩ (.int .i64 0)).setCell ⟨N, 5, none⟩ (.int .i64 0)).setCell ⟨N, 6, none⟩ (.string ⟨#[]⟩)).setCell ⟨N, 7, none⟩ (.string ⟨#[]⟩))) := ⟨(((((((((Bar.refl [N] w2).setCell (p := ⟨N, 0, none⟩) (by simp) (.int .i64 a0)).setCell (p := ⟨N, 1, none⟩) (by simp) (.int .i64 0)).setCell (p := ⟨N, 2, none⟩) (by simp) (.int .i64 0)).setCell (p := ⟨N, 3, none⟩) (by simp) (.int .i64 0)).setCell (p := ⟨N, 4, none⟩) (by simp) (.int .i64 0)).setCell (p := ⟨N, 5, none⟩) (by simp) (.int .i64 0)).setCell (p := ⟨N, 6, none⟩) (by simp) (.string ⟨#[]⟩)).setCell (p := ⟨N, 7, none⟩) (by simp) (.string ⟨#[]⟩))⟩
          have HG : Kept (getR st = (⟨a0, 0, 0, 0, 0, 0, [], []⟩, s1)) := ⟨by unfold getR; simp [E0.out, h1, h2, h3, h4]⟩
          clear X Y
          go_wp2
          (try simp only [Exit.inBlock, Exit.then])
          refine bodyPost_ret (results_cell_row rfl _ _ N 48 #[.int .i64 a0, .int .i64 0, .int .i64 0, .int .i64 0, .int .i64 0, .int .i64 0, .string ⟨#[]⟩, .string ⟨#[]⟩] (0, 0) _ rfl P8.out Try.underlying48 rfl req_size) rfl ?_
          unfold getRPost
          rw [HG.out]
          exact ⟨rfl, ⟨n0, n0⟩, HE.out.keep PB.out (by rw [List.mem_singleton]; omega) (fun k hk hm => by rw [List.mem_singleton] at hm; have := HM2.out k hk; omega), BR.out.trans PB.out (by intro z hz; rw [List.mem_singleton] at hz; omega)⟩
end Go.Proofs.Ytcafffnkkjnpbaa.Req

namespace Go.Proofs.Ytcafffnkkjnpbaa.Req
open Go.RowKit Go.Proofs.Ytcafffnkkjnpbaa.Sha Go.Proofs.Ytcafffnkkjnpbaa.Wire

theorem take_next {α : Type} {l m : List α} {k : Nat} {x y : α} (hx : l[k]? = some x) (hy : m[k]? = some y) (h : l.take k = m.take k) (e : x = y) : l.take (k + 1) = m.take (k + 1) := by
  subst e
  have h1 := List.getElem?_eq_some_iff.1 hx
  have h2 := List.getElem?_eq_some_iff.1 hy
  obtain ⟨a, rfl⟩ := h1
  obtain ⟨b, hb⟩ := h2
  rw [List.take_succ_eq_append_getElem a, List.take_succ_eq_append_getElem b, h, hb]

set_option maxRecDepth 100000 in
set_option maxHeartbeats 4000000 in
theorem rsameb_any (s1 : Int) (A1 : Option Addr) (n1 c1 : Nat) (l1 : List RV) (s2 : Int) (A2 : Option Addr) (n2 c2 : Nat) (l2 : List RV) (w : World) (h1 : Rr w A1 n1 l1) (h2 : Rr w A2 n2 l2) (hm : n1 ≤ 9223372036854775807) (o1 : ∀ r ∈ l1, r.ok) (o2 : ∀ r ∈ l2, r.ok) :
    Calls Try.prog 16 #[.agg #[.int .i64 s1, .slice A1 n1 c1], .agg #[.int .i64 s2, .slice A2 n2 c2]] w (SamePost ((⟨s1, l1⟩ : BV) = ⟨s2, l2⟩) w) := by
  have H1 := Kept.mk h1; have H2 := Kept.mk h2; have O1 := Kept.mk o1; have O2 := Kept.mk o2
  have L1 := Kept.mk h1.1; have L2 := Kept.mk h2.1
  generalize hP : ((⟨s1, l1⟩ : BV) = ⟨s2, l2⟩) = P
  have HP := Kept.mk hP
  obtain ⟨N, hN⟩ : ∃ N, w.heap.size = N := ⟨_, rfl⟩
  have X : Kept (Blk ((w.alloc (.cells #[.int .i64 s1, .slice A1 n1 c1] 24)).alloc (.cells #[.int .i64 s2, .slice A2 n2 c2] 24)) N 24 #[.int .i64 s1, .slice A1 n1 c1]) := ⟨(Blk.new_at w _ _ N hN.symm).alloc _⟩
  have Y : Kept (Blk ((w.alloc (.cells #[.int .i64 s1, .slice A1 n1 c1] 24)).alloc (.cells #[.int .i64 s2, .slice A2 n2 c2] 24)) (N + 1) 24 #[.int .i64 s2, .slice A2 n2 c2]) := ⟨Blk.new_at _ _ _ (N + 1) (by simp [hN])⟩
  have B : Kept (Below w.heap.size w ((w.alloc (.cells #[.int .i64 s1, .slice A1 n1 c1] 24)).alloc (.cells #[.int .i64 s2, .slice A2 n2 c2] 24))) := ⟨((Below.refl _ _).alloc (Nat.le_refl _) _).alloc (by simp) _⟩
  clear h1 h2 o1 o2 hP
  go_enter Try.func16, Try.ntmps16
  go_upto_region 1 with (fail)
  generalize ((w.alloc (.cells #[.int .i64 s1, .slice A1 n1 c1] 24)).alloc (.cells #[.int .i64 s2, .slice A2 n2 c2] 24)) = w1 at *
  have x0 := X.out.cell 0; have x1 := X.out.cell 1; have y0 := Y.out.cell 0; have y1 := Y.out.cell 1
  by_cases hs : s1 = s2
  · subst hs
    by_cases hn : n1 = n2
    · subst hn
      go_wp2
      clear x0 x1 y0 y1
      have TK : Kept (l1.take 0 = l2.take 0) := ⟨by simp⟩
      go_loopw [5] (fun i wr => ∃ k : Nat, k ≤ n1 ∧ i = .int .i64 k ∧ Kept (l1.take k = l2.take k) ∧ Kept (Blk wr N 24 #[.int .i64 s1, .slice A1 n1 c1]) ∧ Kept (Blk wr (N + 1) 24 #[.int .i64 s1, .slice A2 n1 c2]) ∧ Kept (Below w.heap.size w wr)) (fun i _ => n1 - (Go.RowKit.intOf i).toNat)
      case atStart => exact ⟨0, by omega, rfl, TK, X, Y, B⟩
      case round =>
        clear TK X Y B
        obtain ⟨k, hk, rfl, TK, X, Y, B⟩ := hrel
        have x1 := X.out.cell 1
        have y1 := Y.out.cell 1
        by_cases hkn : k < n1
        · have hkn' : (k : Int) < n1 := by omega
          obtain ⟨b1, o1, r1, rfl, hx1, hc1⟩ := (H1.out.below B.out).at_ hkn
          obtain ⟨b2, o2, r2, rfl, hx2, hc2⟩ := (H2.out.below B.out).at_ hkn
          have NE := fun w => req_neq r1 r2 (O1.out r1 (List.mem_of_getElem? hx1)) (O2.out r2 (List.mem_of_getElem? hx2)) w
          obtain ⟨q, hq⟩ : ∃ q, sameR r1 r2 = q := ⟨_, rfl⟩
          rw [hq] at NE
          have X1 := Kept.mk hx1; have X2 := Kept.mk hx2; have HQ := Kept.mk hq
          obtain ⟨p0, p1, p2, p3, p4, p5, p6, p7⟩ := r1
          obtain ⟨q0, q1, q2, q3, q4, q5, q6, q7⟩ := r2
          have u0 := hc1 0 _ rfl; have u1 := hc1 1 _ rfl; have u2 := hc1 2 _ rfl; have u3 := hc1 3 _ rfl; have u4 := hc1 4 _ rfl; have u5 := hc1 5 _ rfl; have u6 := hc1 6 _ rfl; have u7 := hc1 7 _ rfl
          have v0 := hc2 0 _ rfl; have v1 := hc2 1 _ rfl; have v2 := hc2 2 _ rfl; have v3 := hc2 3 _ rfl; have v4 := hc2 4 _ rfl; have v5 := hc2 5 _ rfl; have v6 := hc2 6 _ rfl; have v7 := hc2 7 _ rfl
          rw [Nat.add_zero] at u0 v0
          dsimp only at u0 v0 u1 v1 u2 v2 u3 v3 u4 v4 u5 v5 u6 v6 u7 v7
          unfold rqv at NE
          dsimp only at NE
          clear hc1 hc2 hx1 hx2 hq
          go_upto_region 6 with (fail)
          go_quiet (fail)
          generalize hd : wr.drewN nq = wd at *
          have BD : Below wr.heap.size wr wd := hd ▸ below_drewN (Below.refl _ _) nq
          replace B := Kept.mk (B.out.trans (BD.mono B.out.size))
          replace X := Kept.mk (X.out.below BD X.out.lt)
          replace Y := Kept.mk (Y.out.below BD Y.out.lt)
          clear BD hd u0 v0 u1 v1 u2 v2 u3 v3 u4 v4 u5 v5 u6 v6 u7 v7
          cases q with
          | true =>
            have TK2 : Kept (l1.take (k + 1) = l2.take (k + 1)) := ⟨take_next X1.out X2.out TK.out (sameR_iff.1 HQ.out)⟩
            go_wp2
            go_roundw
            case rel => exact ⟨k + 1, by omega, by go_num, TK2, X, Y, B⟩
            case measure => simp [Go.RowKit.intOf]; omega
          | false =>
            have hne : ¬ l1 = l2 := fun h => by
              have a := X1.out
              rw [h, X2.out] at a
              injection a with a
              have := sameR_iff.2 a.symm
              rw [HQ.out] at this
              cases this
            have NO := Kept.mk (fun h : P => by rw [← HP.out] at h; exact hne (by injection h))
            clear hne
            go_wp2
            go_ret
            exact ⟨false, rfl, ⟨fun h => (by cases h), fun h => (NO.out h).elim⟩, B.out⟩
        · have hkn' : ¬ (k : Int) < n1 := by omega
          obtain rfl : k = n1 := by omega
          have hall : l1 = l2 := by
            have := TK.out
            rwa [List.take_of_length_le (Nat.le_of_eq H1.out.1), List.take_of_length_le (Nat.le_of_eq H2.out.1)] at this
          have YES : Kept P := ⟨by rw [← HP.out, hall]⟩
          clear hall
          go_wp2
          go_ret
          exact ⟨true, rfl, ⟨fun _ => YES.out, fun _ => rfl⟩, B.out⟩
    · have hn2 : ((n1 : Int) != n2) = true := by
        rw [bne_iff_ne]; omega
      have NO := Kept.mk (fun h : P => by
        rw [← HP.out] at h
        have e : l1 = l2 := by injection h
        exact hn (by rw [← L1.out, ← L2.out, e]))
      go_wp2
      go_ret
      exact ⟨false, rfl, ⟨fun h => (by cases h), fun h => (NO.out h).elim⟩, B.out⟩
  · have hs2 : (s1 != s2) = true := by
      rw [bne_iff_ne]; exact hs
    have NO := Kept.mk (fun h : P => by
      rw [← HP.out] at h
      exact hs (by injection h))
    go_wp2
    go_ret
    exact ⟨false, rfl, ⟨fun h => (by cases h), fun h => (NO.out h).elim⟩, B.out⟩
end Go.Proofs.Ytcafffnkkjnpbaa.Req
