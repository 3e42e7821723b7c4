/-
  The law ShaWords's own function times: a product of digits of 16 bits, as the function goes through it.
-/
import Derived.Test.YtblhfbpokfegnaaShaCmp
import Derived.Deep.OwnRows
namespace Go.Proofs.Ytblhfbpokfegnaa.Words
open Go.RowKit Go.Proofs.Ytblhfbpokfegnaa.Sha

theorem info_u64 : (Try.prog.info? 68).map (fun i => (i.zero, i.size, i.bytes)) = some (some (.int .u64 0), 1, 8) := by kernel_rfl
/-- digits of 16 bits -/
def Dg (l : List Int) : Prop := ∀ i, 0 ≤ at_ l i ∧ at_ l i ≤ 65535
def tX (a b : List Int) (i k : Nat) (s : List Int × Int) : Int := at_ s.1 (i + k) + s.2 + (if k < b.length then at_ a i * at_ b k else 0)
def tStep (a b : List Int) (i k : Nat) (s : List Int × Int) : List Int × Int := (s.1.set (i + k) (tX a b i k s % 65536), tX a b i k s / 65536)
/-- row i: the first k digits of b against digit i of a -/
def tIn (a b : List Int) (i : Nat) (out : List Int) : Nat → List Int × Int
  | 0 => (out, 0)
  | k + 1 => tStep a b i k (tIn a b i out k)
def tRow (a b : List Int) (i : Nat) (out : List Int) : List Int := if (tIn a b i out b.length).2 = 0 then (tIn a b i out b.length).1 else (tIn a b i out (b.length + 1)).1
def tRows (a b : List Int) : Nat → List Int
  | 0 => List.replicate (a.length + b.length + 1) 0
  | i + 1 => tRow a b i (tRows a b i)
def timesL (a b : List Int) : List Int := tRows a b a.length

section
variable {a b : List Int}
theorem dg_set {l : List Int} (h : Dg l) (j : Nat) (x : Int) (hx : 0 ≤ x ∧ x ≤ 65535) : Dg (l.set j x) := by
  intro i
  by_cases hi : i < l.length
  · rw [Sha.at_set _ _ _ _ hi]
    split
    · exact hx
    · exact h i
  · have : at_ (l.set j x) i = 0 := by simp [at_, List.getD_eq_getElem?_getD, List.getElem?_eq_none (show (l.set j x).length ≤ i by simp; omega)]
    rw [this]; omega
theorem prod_le {x y : Int} (hx : 0 ≤ x ∧ x ≤ 65535) (hy : 0 ≤ y ∧ y ≤ 65535) : 0 ≤ x * y ∧ x * y ≤ 4294836225 := by
  refine ⟨Int.mul_nonneg hx.1 hy.1, ?_⟩
  have := Int.mul_le_mul hx.2 hy.2 hy.1 (by omega)
  omega
theorem tX_le (da : Dg a) (db : Dg b) (i k : Nat) (s : List Int × Int) (h1 : Dg s.1) (h2 : 0 ≤ s.2 ∧ s.2 ≤ 65535) : 0 ≤ tX a b i k s ∧ tX a b i k s ≤ 4294967295 := by
  unfold tX
  have h3 := h1 (i + k)
  have h4 := prod_le (da i) (db k)
  split <;> omega
theorem tIn_ok (da : Dg a) (db : Dg b) (i : Nat) (out : List Int) (ho : Dg out) (k : Nat) : Dg (tIn a b i out k).1 ∧ (0 ≤ (tIn a b i out k).2 ∧ (tIn a b i out k).2 ≤ 65535) ∧ (tIn a b i out k).1.length = out.length := by
  induction k with
  | zero => exact ⟨ho, by simp [tIn], rfl⟩
  | succ k ih =>
    obtain ⟨h1, h2, h3⟩ := ih
    have hx := tX_le da db i k _ h1 h2
    refine ⟨dg_set h1 _ _ (by omega), ?_, ?_⟩
    · simp only [tIn, tStep]; omega
    · simp only [tIn, tStep, List.length_set]; exact h3
theorem tIn_far (i : Nat) (out : List Int) (k j : Nat) (hj : i + k ≤ j) : at_ (tIn a b i out k).1 j = at_ out j := by
  induction k with
  | zero => rfl
  | succ k ih =>
    simp only [tIn, tStep]
    have hne : i + k ≠ j := by omega
    rw [← ih (by omega)]
    simp [at_, List.getD_eq_getElem?_getD, List.getElem?_set_ne hne]
theorem tIn_last (da : Dg a) (db : Dg b) (i : Nat) (out : List Int) (ho : Dg out) (h0 : at_ out (i + b.length) = 0) : (tIn a b i out (b.length + 1)).2 = 0 := by
  obtain ⟨h1, h2, h3⟩ := tIn_ok da db i out ho b.length
  simp only [tIn, tStep, tX]
  rw [tIn_far i out b.length _ (Nat.le_refl _), h0, if_neg (by omega)]
  omega
theorem tRow_ok (da : Dg a) (db : Dg b) (i : Nat) (out : List Int) (ho : Dg out) : Dg (tRow a b i out) ∧ (tRow a b i out).length = out.length := by
  unfold tRow
  split
  · have := tIn_ok da db i out ho b.length; exact ⟨this.1, this.2.2⟩
  · have := tIn_ok da db i out ho (b.length + 1); exact ⟨this.1, this.2.2⟩
theorem tRow_far (i : Nat) (out : List Int) (j : Nat) (hj : i + b.length + 1 ≤ j) : at_ (tRow a b i out) j = at_ out j := by
  unfold tRow
  split
  · exact tIn_far i out b.length j (by omega)
  · exact tIn_far i out (b.length + 1) j (by omega)
theorem tRows_ok (da : Dg a) (db : Dg b) (i : Nat) : Dg (tRows a b i) ∧ (tRows a b i).length = a.length + b.length + 1 ∧ ∀ j, i + b.length ≤ j → at_ (tRows a b i) j = 0 := by
  induction i with
  | zero =>
    have h0 : ∀ j, at_ (List.replicate (a.length + b.length + 1) (0 : Int)) j = 0 := by
      intro j
      simp only [at_, List.getD_eq_getElem?_getD, List.getElem?_replicate]
      split <;> rfl
    exact ⟨fun j => by rw [tRows, h0]; omega, by simp [tRows], fun j _ => by rw [tRows, h0]⟩
  | succ i ih =>
    obtain ⟨h1, h2, h3⟩ := ih
    obtain ⟨h4, h5⟩ := tRow_ok da db i _ h1
    refine ⟨h4, by rw [tRows, h5, h2], fun j hj => ?_⟩
    rw [tRows, tRow_far i _ j (by omega)]
    exact h3 j (by omega)
end

def TimesPost (l : List Int) (n : Nat) (w : World) (e : Ending) (w' : World) : Prop := ∃ M, e = .returned (.slice (some ⟨M, 0, none⟩) n n) ∧ w.heap.size ≤ M ∧ Blk w' M 68 (arr .u64 l) ∧ Below w.heap.size w w'
theorem made_zeros64 (n : Nat) : madeCells #[Value.int .u64 0] n = arr .u64 (List.replicate n 0) := by
  apply Array.toList_inj.1
  rw [toList_madeCells_one]
  simp [arr, ints]
theorem and16 (x : Int) (h0 : 0 ≤ x) (h1 : x ≤ 4294967295) : bits .and .u64 x 65535 = x % 65536 := by
  obtain ⟨n, rfl⟩ := Int.eq_ofNat_of_zero_le h0
  have h := u64_and_nat n 65535 (by omega) (by omega)
  rw [show n &&& 65535 = n % 65536 from Nat.and_two_pow_sub_one_eq_mod n 16] at h
  exact h

set_option maxRecDepth 100000 in
set_option maxHeartbeats 4000000 in
theorem times_any (ga gb la lb ca cb : Nat) (xa xb : List Int) (w : World) (ha : Blk w ga 68 (arr .u64 xa)) (hb : Blk w gb 68 (arr .u64 xb)) (hla : xa.length = la) (hlb : xb.length = lb) (da : Dg xa) (db : Dg xb) (h1 : la ≤ 16) (h2 : lb ≤ 16) :
    Calls Try.prog 38 #[.slice (some ⟨ga, 0, none⟩) la ca, .slice (some ⟨gb, 0, none⟩) lb cb] w (TimesPost (timesL xa xb) (la + lb + 1) w) := by
  obtain ⟨S, hS⟩ : ∃ S, la + lb + 1 = S := ⟨_, rfl⟩
  have hS' : (la : Int) + lb + 1 = S := by omega
  have hmk := run_make_row' (P := Try.prog) 76 68 (.int .u64 0) 8 Try.underlying76 info_u64 rfl .i64 .i64 S (by omega) (by omega)
  rw [made_zeros64] at hmk
  obtain ⟨N, hN⟩ : ∃ N, w.heap.size = N := ⟨_, rfl⟩
  have hga : ga < N := by rw [← hN]; exact ha.lt
  have hgb : gb < N := by rw [← hN]; exact hb.lt
  have HA := Kept.mk ha
  have HB := Kept.mk hb
  have HLA := Kept.mk hla
  have HLB := Kept.mk hlb
  have DA := Kept.mk da
  have DB := Kept.mk db
  have HS := Kept.mk hS
  rw [hS]
  have k0 := Kept.mk (Blk.new_at w 68 (arr .u64 (List.replicate S 0)) N hN.symm)
  have b0 := Kept.mk ((Below.refl N w).alloc (by omega) (.cells (arr .u64 (List.replicate S 0)) 68))
  clear ha hb hla hlb da db hS
  go_enter Try.func38, Try.ntmps38
  go_wp2
  clear hmk hS'
  go_loopw [6] (fun i wr => ∃ i' : Nat, i' ≤ la ∧ i = .int .i64 i' ∧ Kept (Blk wr N 68 (arr .u64 (tRows xa xb i'))) ∧ Kept (Below N w wr)) (fun i _ => la - (intOf i).toNat)
  case atStart => exact ⟨0, by omega, rfl, ⟨by rw [tRows, HLA.out, HLB.out, HS.out]; exact k0.out⟩, b0⟩
  case round =>
    clear k0 b0
    obtain ⟨i', hi, rfl, KO, B⟩ := hrel
    by_cases hil : i' < la
    · have hil' : (i' : Int) < la := by omega
      obtain ⟨hd, hlo, hfar⟩ := tRows_ok DA.out DB.out i'
      rw [HLA.out, HLB.out, HS.out] at hlo
      have hlast := tIn_last DA.out DB.out i' _ hd (hfar _ (Nat.le_refl _))
      rw [HLB.out] at hlast
      have hrow : tRows xa xb (i' + 1) = if (tIn xa xb i' (tRows xa xb i') lb).2 = 0 then (tIn xa xb i' (tRows xa xb i') lb).1 else (tIn xa xb i' (tRows xa xb i') (lb + 1)).1 := by rw [tRows, tRow, HLB.out]
      generalize tRows xa xb i' = out at *
      have HD := Kept.mk hd
      have HLO := Kept.mk hlo
      have HLast := Kept.mk hlast
      have HRow := Kept.mk hrow
      clear hd hlo hfar hlast hrow
      go_wp2
      go_loopw [7, 8] (fun c k wr => ∃ k' : Nat, (k' ≤ lb ∨ k' = lb + 1 ∧ Kept (¬ (tIn xa xb i' out lb).2 = 0)) ∧ c = .int .u64 (tIn xa xb i' out k').2 ∧ k = .int .i64 k' ∧ Kept (Blk wr N 68 (arr .u64 (tIn xa xb i' out k').1)) ∧ Kept (Below N w wr)) (fun _ k _ => lb + 2 - (intOf k).toNat)
      case atStart => exact ⟨0, by omega, rfl, rfl, KO, B⟩
      case round =>
        clear KO B
        obtain ⟨k', hk, rfl, rfl, KO, B⟩ := hrel
        obtain ⟨hd, hc, hl⟩ := tIn_ok DA.out DB.out i' out HD.out k'
        rw [HLO.out] at hl
        have hsucc : tIn xa xb i' out (k' + 1) = tStep xa xb i' k' (tIn xa xb i' out k') := rfl
        by_cases hkl : k' < lb
        · have hkl' : (k' : Int) < lb := by omega
          have hX : tX xa xb i' k' (tIn xa xb i' out k') = at_ (tIn xa xb i' out k').1 (i' + k') + (tIn xa xb i' out k').2 + at_ xa i' * at_ xb k' := by rw [tX, HLB.out, if_pos hkl]
          rw [tStep, hX] at hsucc
          clear hX
          have hod := hd (i' + k')
          have hpr := prod_le (DA.out i') (DB.out k')
          have c0 := KO.out.at_ (i' + k') (by rw [hl]; have := HS.out; omega)
          have z0 := KO.out.frozen (i' + k')
          have ca0 : wr.cell? ⟨ga, i', none⟩ = some (.int .u64 (at_ xa i')) := (HA.out.below B.out hga).at_ i' (by rw [HLA.out]; exact hil)
          have cb0 : wr.cell? ⟨gb, k', none⟩ = some (.int .u64 (at_ xb k')) := (HB.out.below B.out hgb).at_ k' (by rw [HLB.out]; exact hkl)
          have hda := DA.out i'
          have hdb := DB.out k'
          generalize (tIn xa xb i' out k').1 = o0 at *
          generalize (tIn xa xb i' out k').2 = cr at *
          generalize at_ xa i' = va at *
          generalize at_ xb k' = vb at *
          obtain ⟨q, hq⟩ : ∃ q, i' + k' = q := ⟨_, rfl⟩
          have hq' : (i' : Int) + (k' : Int) = q := by omega
          have hqS : (q : Int) < S := by have := HS.out; omega
          rw [hq] at c0 z0 hod hsucc
          generalize at_ o0 q = vo at *
          obtain ⟨p, hp⟩ : ∃ p, va * vb = p := ⟨_, rfl⟩
          obtain ⟨s, hs⟩ : ∃ s, vo + cr = s := ⟨_, rfl⟩
          obtain ⟨x, hx⟩ : ∃ x, s + p = x := ⟨_, rfl⟩
          rw [hp] at hpr
          rw [hp, hs, hx] at hsucc
          have hx0 : 0 ≤ x := by omega
          have hx1 : x ≤ 4294967295 := by omega
          have wp : IntKind.u64.wrap p = p := by rw [IntKind.wrap_u64]; omega
          have ws : IntKind.u64.wrap s = s := by rw [IntKind.wrap_u64]; omega
          have wx : IntKind.u64.wrap x = x := by rw [IntKind.wrap_u64]; omega
          have hand := and16 x hx0 hx1
          have HSucc := Kept.mk hsucc
          have HQ := Kept.mk hq
          obtain ⟨hc1, hc2⟩ := hc
          obtain ⟨ho1, ho2⟩ := hod
          obtain ⟨hp1, hp2⟩ := hpr
          obtain ⟨va1, va2⟩ := hda
          obtain ⟨vb1, vb2⟩ := hdb
          clear hsucc hd hl hq
          go_wp2
          go_quiet (fail)
          replace KO : Kept (Blk (wr.drewN nq) N 68 (arr .u64 o0)) := ⟨KO.out⟩
          replace B : Kept (Below N w (wr.drewN nq)) := ⟨below_drewN B.out _⟩
          replace c0 : (wr.drewN nq).cell? ⟨N, q, none⟩ = _ := c0
          replace z0 : (wr.drewN nq).frozen? ⟨N, q, none⟩ = _ := z0
          generalize wr.drewN nq = wq at *
          clear ca0 cb0
          go_wp2
          go_roundw
          case rel =>
            refine ⟨k' + 1, .inl (by omega), by rw [HSucc.out], by go_num, ⟨?_⟩, ⟨B.out.setCell (by simp) _⟩⟩
            rw [HSucc.out]
            have := KO.out.set_ q (.int .u64 (x % 65536))
            rw [arr_set] at this
            exact this
          case measure => simp [intOf]; omega
        · have hkl' : ¬ (k' : Int) < lb := by omega
          by_cases hz : (tIn xa xb i' out k').2 = 0
          · have hnext : tRows xa xb (i' + 1) = (tIn xa xb i' out k').1 := by
              rw [HRow.out]
              rcases hk with hk | ⟨rfl, hk⟩
              · obtain rfl : k' = lb := by omega
                rw [if_pos hz]
              · rw [if_neg hk.out]
            rw [← hnext] at KO
            rw [hz]
            clear hz hnext hd hc hl hsucc hk HRow HLast HLO HD
            go_wp2
            go_roundw
            case rel => exact ⟨i' + 1, by omega, by go_num, KO, B⟩
            case measure => simp [intOf]; omega
          · have hkeq : k' = lb := by
              rcases hk with hk | ⟨rfl, hk⟩
              · omega
              · exact absurd HLast.out hz
            subst hkeq
            have hX : tX xa xb i' k' (tIn xa xb i' out k') = at_ (tIn xa xb i' out k').1 (i' + k') + (tIn xa xb i' out k').2 := by rw [tX, HLB.out, if_neg (by omega)]; omega
            rw [tStep, hX] at hsucc
            clear hX
            have hod := hd (i' + k')
            have c0 := KO.out.at_ (i' + k') (by rw [hl]; have := HS.out; omega)
            have z0 := KO.out.frozen (i' + k')
            generalize (tIn xa xb i' out k').1 = o0 at *
            have hcz := hz
            obtain ⟨cr, hcr⟩ : ∃ cr, (tIn xa xb i' out k').2 = cr := ⟨_, rfl⟩
            rw [hcr] at hc hcz hsucc
            rw [hcr]
            have HZ := Kept.mk hcz
            clear hz hcr
            obtain ⟨q, hq⟩ : ∃ q, i' + k' = q := ⟨_, rfl⟩
            have hq' : (i' : Int) + (k' : Int) = q := by omega
            have hqS : (q : Int) < S := by have := HS.out; omega
            rw [hq] at c0 z0 hod hsucc
            generalize at_ o0 q = vo at *
            obtain ⟨x, hx⟩ : ∃ x, vo + cr = x := ⟨_, rfl⟩
            rw [hx] at hsucc
            have hx0 : 0 ≤ x := by omega
            have hx1 : x ≤ 4294967295 := by omega
            have wx : IntKind.u64.wrap x = x := by rw [IntKind.wrap_u64]; omega
            have hand := and16 x hx0 hx1
            have HSucc := Kept.mk hsucc
            obtain ⟨hc1, hc2⟩ := hc
            obtain ⟨ho1, ho2⟩ := hod
            have hcp : 0 < cr := by omega
            clear hsucc hd hl hq hk hcz HRow HLast HLO HD
            go_wp2
            go_roundw
            case rel =>
              refine ⟨k' + 1, .inr ⟨rfl, HZ⟩, by rw [HSucc.out], by go_num, ⟨?_⟩, ⟨B.out.setCell (by simp) _⟩⟩
              rw [HSucc.out]
              have := KO.out.set_ q (.int .u64 (x % 65536))
              rw [arr_set] at this
              exact this
            case measure => simp [intOf]
    · have hil' : ¬ (i' : Int) < la := by omega
      obtain rfl : i' = la := by omega
      have hfin : tRows xa xb i' = timesL xa xb := by rw [timesL, HLA.out]
      rw [hfin] at KO
      clear hfin
      go_wp2
      go_ret
      exact ⟨N, rfl, by omega, KO.out, by rw [hN]; exact B.out⟩
end Go.Proofs.Ytblhfbpokfegnaa.Words
