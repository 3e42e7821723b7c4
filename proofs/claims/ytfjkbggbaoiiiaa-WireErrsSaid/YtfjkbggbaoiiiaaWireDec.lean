/-
  Package wire, reading: Dec in memory, its functions.
-/
import Derived.Test.YtfjkbggbaoiiiaaWireEnc
import Derived.Test.YtfjkbggbaoiiiaaClone
import Derived.Test.YtfjkbggbaoiiiaaSlices
import Derived.Laws.BitsAllLaws
namespace Go.Proofs.Ytfjkbggbaoiiiaa.Wire
open Go.RowKit Go.Proofs.Ytfjkbggbaoiiiaa.Sha

theorem val_step (xs : List Int) (k : Nat) (hk : k < xs.length) : val (xs.take (k + 1)) = val (xs.take k) * 256 + (at_ xs k).toNat := by
  rw [List.take_succ_eq_append_getElem hk, val, valA_append]
  simp only [valA]
  rw [show at_ xs k = xs[k] by simp [at_, hk]]
  rfl
theorem val_take_lt (xs : List Int) (hb : Bytes xs) (k : Nat) (hk : k ≤ xs.length) : val (xs.take k) < 256 ^ k := by
  have := val_lt (xs.take k) (hb.take k)
  rwa [List.length_take, Nat.min_eq_left hk] at this
/-- a byte more, as the program reckons it -/
theorem or_step (v : Nat) (x : Int) (hx : 0 ≤ x ∧ x ≤ 255) (hv : v < 72057594037927936) : bits .or .u64 ((v : Int) * 256) x = ((v * 256 + x.toNat : Nat) : Int) := by
  rw [u64_or _ _ (by omega) (by omega) (by omega) (by omega)]
  congr 1
  rw [show ((v : Int) * 256).toNat = v * 256 by omega]
  exact nat_join 8 (v * 256) x.toNat (by omega) (by omega)

set_option maxRecDepth 100000 in
set_option maxHeartbeats 1000000 in
theorem first_any (A : Option Addr) (n c s : Nat) (xs : List Int) (w : World) (hr : Rd w A n xs) (hc : n ≤ c) (hs : 1 ≤ s) (h8 : s ≤ 8) :
    Calls Try.prog 40 #[.slice A n c, .int .i64 s] w fun x w' => x = .returned (.tuple #[.int .i64 (frst xs s).1, .bool (frst xs s).2]) ∧ w = w' := by
  by_cases hsn : s ≤ n
  · obtain ⟨A', hsl, r', -⟩ := slice_h hr hc s hsn s rfl
    have HR := Kept.mk r'
    have LX := hr.1
    have BX := Kept.mk hr.2.1
    clear hr r'
    have hsn' : ¬ (n : Int) < s := by omega
    go_enter Try.func40, Try.ntmps40
    go_wp2
    go_loop [6, 8, 17] (fun u x i => ∃ k : Nat, k ≤ s ∧ u = .int .u64 (val (xs.take k) : Nat) ∧ i = .int .i64 k) (fun _ _ i => s - (intOf i).toNat)
    case atStart => exact ⟨0, by omega, rfl, rfl⟩
    case round =>
      obtain ⟨k, hk, rfl, rfl⟩ := hrel
      by_cases hks : k < s
      · have hks' : (k : Int) < s := by omega
        obtain ⟨b, o, rfl, hcell⟩ := HR.out.2.2.resolve_left (by omega)
        have x0 := hcell k hks
        rw [at_take hks] at x0
        have hx := BX.out.at_ k
        have hst := val_step xs k (by omega)
        have hlt := val_take_lt xs BX.out k (by omega)
        have hlt7 : 256 ^ k ≤ 256 ^ 7 := Nat.pow_le_pow_right (by omega) (by omega)
        generalize at_ xs k = x at *
        generalize val (xs.take k) = v at *
        have ho := or_step v x hx (by omega)
        rw [← hst] at ho
        have hw : IntKind.u64.wrap ((v : Int) * 256) = (v : Int) * 256 := by rw [IntKind.wrap_u64]; omega
        have hw2 : IntKind.u64.wrap x = x := by rw [IntKind.wrap_u64]; omega
        clear hcell hst
        go_wp2
        go_round
        case rel => exact ⟨k + 1, by omega, rfl, by go_num⟩
        case measure => simp [intOf]; omega
      · have hks' : ¬ (k : Int) < s := by omega
        obtain rfl : k = s := by omega
        have hlt := val_take_lt xs BX.out k (by omega)
        have hlt8 : 256 ^ k ≤ 256 ^ 8 := Nat.pow_le_pow_right (by omega) (by omega)
        obtain ⟨v, hv0⟩ : ∃ v, val (xs.take k) = v := ⟨_, rfl⟩
        rw [hv0] at hlt ⊢
        have HV := Kept.mk hv0
        clear hv0
        by_cases hv : v ≤ 4611686018427387904
        · have hv' : ¬ (4611686018427387904 : Int) < v := by omega
          have hw : IntKind.i64.wrap (v : Int) = v := by rw [IntKind.wrap_i64]; omega
          have HE := Kept.mk (show frst xs k = ((v : Int), true) by unfold frst; rw [HV.out, LX, if_pos ⟨hsn, hv⟩])
          go_wp2
          go_ret2
          exact ⟨by rw [HE.out]; rfl, rfl⟩
        · have hv' : (4611686018427387904 : Int) < v := by omega
          have HE := Kept.mk (show frst xs k = (0, false) by unfold frst; rw [HV.out, LX, if_neg (fun hh => hv hh.2)])
          go_wp2
          go_ret2
          exact ⟨by rw [HE.out]; rfl, rfl⟩
  · have hsn' : (n : Int) < s := by omega
    have HE := Kept.mk (show frst xs s = (0, false) by unfold frst; rw [hr.1, if_neg (fun hh => hsn hh.1)])
    clear hr
    go_enter Try.func40, Try.ntmps40
    go_wp2
    go_ret2
    exact ⟨by rw [HE.out]; rfl, rfl⟩

/-- a Dec at block d: what is left, the first error; it reads out of the blocks G -/
def De (T : TypeId) (w : World) (d : Nat) (G : List Nat) (st : St) : Prop :=
  (∀ k ∈ G, k < w.heap.size) ∧ ∃ A c, Blk w d T #[.slice A st.2.length c, .int .i64 st.1] ∧ Rd w A st.2.length st.2 ∧ st.2.length ≤ c ∧ c ≤ 9223372036854775807 ∧ ∀ F : List Nat, Disj G F → Off A st.2.length F
theorem De.lt {T : TypeId} {w : World} {d : Nat} {G : List Nat} {st : St} (h : De T w d G st) : d < w.heap.size := by
  obtain ⟨-, A, c, h1, -⟩ := h
  exact h1.lt
theorem De.lts {T : TypeId} {w : World} {d : Nat} {G : List Nat} {st : St} (h : De T w d G st) : ∀ k ∈ d :: G, k < w.heap.size := fun k hk => by
  rcases List.mem_cons.1 hk with rfl | hk
  · exact h.lt
  · exact h.1 k hk
theorem De.bytes {T : TypeId} {w : World} {d : Nat} {G : List Nat} {st : St} (h : De T w d G st) : Bytes st.2 := by
  obtain ⟨-, A, c, h1, h2, -⟩ := h
  exact h2.2.1
theorem De.keep {T : TypeId} {w w' : World} {d : Nat} {G : List Nat} {st : St} {F : List Nat} (h : De T w d G st) (b : Bar F w w') (hd : d ∉ F) (hg : Disj G F) : De T w' d G st := by
  obtain ⟨h0, A, c, h1, h2, h3, h4, h5⟩ := h
  exact ⟨fun k hk => Nat.lt_of_lt_of_le (h0 k hk) b.size, A, c, h1.bar b hd, h2.far b (h5 F hg), h3, h4, h5⟩
theorem De.below {T : TypeId} {w w' : World} {d : Nat} {G : List Nat} {st : St} (h : De T w d G st) (b : Below w.heap.size w w') : De T w' d G st := h.keep (barOf b []) (by simp) (fun _ _ => by simp)
set_option maxRecDepth 100000 in
set_option maxHeartbeats 1000000 in
theorem newdec_any (A : Option Addr) (n c : Nat) (xs : List Int) (w : World) (hr : Rd w A n xs) (hn : n < 2147483648) :
    Calls Try.prog 19 #[.slice A n c] w fun x w' => ∃ d G, x = .returned (.pointer (some ⟨d, 0, none⟩)) ∧ De 62 w' d G (0, xs) ∧ w.heap.size ≤ d ∧ (∀ k ∈ G, w.heap.size ≤ k ∧ k < w'.heap.size) ∧ d ∉ G ∧ Below w.heap.size w w' := by
  have LX := hr.1
  have BX := Kept.mk hr.2.1
  have hcl := Kept.mk (clone_any A n c xs w hr hn)
  clear hr
  go_enter Try.func19, Try.ntmps19
  go_wp2_with fail
  refine hcl.out.mono ?_
  rintro x w1 ⟨v, rfl, own, b1⟩
  obtain ⟨A1, c1, rfl, h1, h2, r1⟩ := own_rd own BX.out
  subst LX
  have hD : De 62 (w1.alloc (.cells #[.slice A1 xs.length c1, .int .i64 0] 62)) w1.heap.size (Value.slice A1 xs.length c1).ownBlock.toList (0, xs) :=
    ⟨fun k hk => by have := (own.lt k (by simpa using hk)).2; simp; omega, A1, c1, Blk.new _ _ _, r1.below ((Below.refl _ w1).alloc (Nat.le_refl _) _), h1, h2, fun F hF => own_off own hF⟩
  have HD := Kept.mk hD
  have B1 := Kept.mk b1; have HL := Kept.mk own.lt
  clear hcl own r1 b1 hD
  go_wp2
  go_ret
  refine ⟨_, _, rfl, HD.out, B1.out.size, fun k hk => ?_, fun hk => ?_, B1.out.alloc B1.out.size _⟩
  · have := HL.out k (by simpa using hk)
    simp; omega
  · have := HL.out w1.heap.size (by simpa using hk)
    omega
end Go.Proofs.Ytfjkbggbaoiiiaa.Wire
