/-
  The document's own Mac and Key.
-/
import Derived.Test.YtblhfbpokfegnaaShaUse
import Derived.Test.YtblhfbpokfegnaaMacSpec
import Derived.Maps.AppendAt
namespace Go.Proofs.Ytblhfbpokfegnaa.Mac
open Go.RowKit Go.Proofs.Ytblhfbpokfegnaa.Sha

/-- two rows of the call's own that share no block -/
def Apart (v u : Value) : Prop := ∀ g, v.ownBlock = some g → u.ownBlock ≠ some g
/-- bytes that are read in memory go behind what the call made; where the row lies then -/
theorem wpList_append_rda {P : Program} {w : World} {ops : Array Oper} {rest : List Oper} {o : Oper} {a : Act} {Q : Exit → Act → World → Prop} (hgd : o.guard = none) (s x : Operand) (t : TypeId)
    (ho : o.op = .call { callee := .builtin .append, args := #[s, x], argTypes := #[t, t] })
    (base : Nat) (e : TypeId) (ht : P.underlying t = some (.slice e)) (hi : (P.info? e).map (fun i => (i.zero, i.size, i.bytes)) = some (some (.int .u8 0), 1, 1))
    (v : Value) (n : Nat) (xs : List Value) (hs : a.eval s = v) (hown : w.ownsRow base e 1 v n xs)
    (A : Option Addr) (m c : Nat) (news : List Int) (hx : a.eval x = .slice A m c) (hr : Rd w A m news)
    (hsmall : n + m ≤ 4294967296) (hbase : base ≤ w.heap.size)
    (h : ∀ v' w', Kept (w'.ownsRow base e 1 v' (n + m) (xs ++ ints .u8 news)) → w.grownBy w' v.ownBlock → (v'.ownBlock = v.ownBlock ∨ v'.ownBlock = some w.heap.size) → wpList P ops Q rest (a.put o.dst v') w') : wpList P ops Q (o :: rest) a w := by
  obtain ⟨iu, hi, hz0, hz1, hz2⟩ := info_parts hi
  have hr0 := hr
  obtain ⟨h1, h2, h3⟩ := hr
  cases A with
  | none =>
    have h0 : m = 0 := by
      rcases h3 with h3 | ⟨_, _, h4, _⟩
      · exact h3
      · cases h4
    subst h0
    obtain rfl : news = [] := List.eq_nil_of_length_eq_zero h1
    refine wpList_plain hgd fun K hK => ?_
    have hrun := run_append_nil_any (P := P) w base t o.type e iu 1 ht hi v n xs hown c
    unfold Oper.wp
    simp [execOp, ho, resolve, invoke, builtin, hs, hx, hrun, Result.andThen]
    exact hK _ _ (h v w ⟨by simpa [ints] using hown⟩ (World.grownBy.refl _ _) (.inl rfl))
  | some ad =>
    have hc : ∀ j u, (ints .u8 news)[j]? = some u → w.cell? (ad.add j) = some u := by
      intro j u hj
      have hjl : j < news.length := by have := (List.getElem?_eq_some_iff.1 hj).1; rwa [ints_len] at this
      rcases h3 with h3 | ⟨b, o', h4, hc⟩
      · omega
      · injection h4 with h4
        subst h4
        rw [Sha.ints_at _ _ _ hjl] at hj
        rw [← hj, show (⟨b, o', none⟩ : Addr).add j = ⟨b, o' + j, none⟩ by cases j <;> simp [Addr.add]]
        exact hc j (by omega)
    exact wpList_append_own_at w hgd s x t ho base e iu (.int .u8 0) 1 1 ht hi hz0 hz1 hz2 rfl (by omega) v n xs hs hown ad m c (ints .u8 news) hx (by rw [ints_len, h1]; omega) hc (ints_one _ _) (by unfold maxLen; omega) (by omega) hbase (fun v' w' a1 a2 _ a3 => h v' w' ⟨a1⟩ a2 a3)

/-- behind an append to one row the other is as it was, and they still share nothing -/
theorem apart_in {w1 w2 : World} {base n : Nat} {e : TypeId} {v v' u : Value} {xs : List Value} (ha : Apart v u) (h : w1.ownsRow base e 1 u n xs) (hg : w1.grownBy w2 v.ownBlock)
    (hat : v'.ownBlock = v.ownBlock ∨ v'.ownBlock = some w1.heap.size) : w2.ownsRow base e 1 u n xs ∧ Apart u v' := by
  have hne : u.ownBlock = none ∨ u.ownBlock ≠ v.ownBlock := by
    cases hu : u.ownBlock with
    | none => exact .inl rfl
    | some g => exact .inr fun hv => ha g hv.symm hu
  refine ⟨h.kept hg hne, fun g hu hv => ?_⟩
  rcases hat with hat | hat
  · rw [hat] at hv
    exact ha g hv hu
  · rw [hat] at hv
    injection hv with hv
    have := (h.lt g hu).2
    omega
theorem kp_take (key : List Int) (c : Int) (k : Nat) (h : k < 64) : (kp key c).take (k + 1) = (kp key c).take k ++ [bits .xor .u8 (at_ key k) c] := by
  rw [List.take_succ_eq_append_getElem (by rw [kp_len]; exact h)]
  congr 2
  have := kp_at key c k h
  simpa [at_, List.getD_eq_getElem?_getD, kp_len, h] using this

def RMacPost (text : List Int) (w : World) (e : Ending) (w' : World) : Prop := ∃ M cap, e = .returned (.slice (some ⟨M, 0, none⟩) 32 cap) ∧ w.heap.size ≤ M ∧ 32 ≤ cap ∧ cap ≤ maxLen ∧ Rd w' (some ⟨M, 0, none⟩) 32 text ∧ Below w.heap.size w w'

set_option maxRecDepth 100000 in
set_option maxHeartbeats 2000000 in
theorem rmac_any (A Bb : Option Addr) (na ca nb cb : Nat) (key text : List Int) (w : World) (hra : Rd w A na key) (hrb : Rd w Bb nb text) (hn : na < 1073741824) (hm : nb < 536870912) :
    Calls Try.prog 24 #[.slice A na ca, .slice Bb nb cb] w (RMacPost (hmac key text) w) := by
  have RA := Kept.mk hra
  have RB := Kept.mk hrb
  have LA := Kept.mk hra.1
  have LB := Kept.mk hrb.1
  clear hra hrb
  by_cases hbig : 64 < na
  · have hbig' := Kept.mk (keyOf_big (key := key) (by rw [LA.out]; exact hbig))
    go_enter Try.func24, Try.ntmps24
    go_wp2_with fail
    refine (rhash_any A na ca key w RA.out hn).mono ?_
    rintro e w0 ⟨M0, cap0, rfl, hM0, hc0, hm0, r0, b0⟩
    have R0 := Kept.mk r0
    have B0 := Kept.mk b0
    have RB' := Kept.mk (RB.out.below b0)
    clear r0 b0
    go_wp2
    go_loopw [5, 6, 7] (fun vi vo i wr => ∃ (k : Nat) (ui uo : Value), k ≤ 64 ∧ ui = vi ∧ uo = vo ∧ i = .int .i64 k ∧ Kept (wr.ownsRow w0.heap.size 5 1 ui k (ints .u8 ((kp (sha key) 54).take k))) ∧ Kept (wr.ownsRow w0.heap.size 5 1 uo k (ints .u8 ((kp (sha key) 92).take k))) ∧ Kept (Apart ui uo) ∧ Kept (Rd wr (some ⟨M0, 0, none⟩) 32 (sha key)) ∧ Kept (Below w0.heap.size w0 wr)) (fun _ _ i _ => 64 - (intOf i).toNat)
    case atStart => exact ⟨0, .slice none 0 0, .slice none 0 0, by omega, rfl, rfl, rfl, ⟨World.ownsRow_nil _ _ _ _⟩, ⟨World.ownsRow_nil _ _ _ _⟩, ⟨fun g h => by simp [Value.ownBlock] at h⟩, R0, ⟨Below.refl _ _⟩⟩
    case round =>
      obtain ⟨k, vi, vo, hk, rfl, rfl, rfl, OI, OO, AP, R, B⟩ := hrel
      by_cases h64 : k < 64
      · have k64 : (k : Int) < 64 := by omega
        have T54 := Kept.mk (kp_take (sha key) 54 k h64)
        have T92 := Kept.mk (kp_take (sha key) 92 k h64)
        by_cases hin : k < 32
        · obtain ⟨bb, oo, hA, hc⟩ := R.out.2.2.resolve_left (by omega)
          injection hA with hA
          injection hA with e1 e2
          subst e1 e2
          have hin' : (k : Int) < (32 : Nat) := by omega
          have x0 := hc k hin
          try rw [Nat.zero_add] at x0
          have hx := R.out.2.1.at_ k
          generalize at_ (sha key) k = c at *
          obtain ⟨hx0, hx1⟩ := hx
          clear hc
          go_wp2_with (first
            | ((with_reducible refine sel 30 ?_); refine wpList_append_rda rfl (.tmp 26) (.tmp 29) 29 rfl w0.heap.size 5 Try.underlying29 info_u8 vi k _ rfl (OI.out.alloc _) _ 1 1 [bits .xor .u8 c 54] rfl (rd_one _ _ (bits8 _ _ _)) (by omega) (by have := B.out.size; simp; omega) ?_; intro v7 w7 o7 g7 a7; have O7 := Kept.mk o7.out; have P7 := Kept.mk (apart_in AP.out (OO.out.alloc (.cells #[.int .u8 (bits .xor .u8 c 54)] 5)) g7 a7); have B7 := Kept.mk ((B.out.alloc B.out.size (.cells #[.int .u8 (bits .xor .u8 c 54)] 5)).trans (own_below (OI.out.alloc (.cells #[.int .u8 (bits .xor .u8 c 54)] 5)) g7 (by have := B.out.size; simp; omega))); clear o7 g7 a7)
            | ((with_reducible refine sel 35 ?_); refine wpList_append_rda rfl (.tmp 31) (.tmp 34) 29 rfl w0.heap.size 5 Try.underlying29 info_u8 vo k _ rfl (P7.out.1.alloc _) _ 1 1 [bits .xor .u8 c 92] rfl (rd_one _ _ (bits8 _ _ _)) (by omega) (by have := B7.out.size; simp; omega) ?_; intro v8 w8 o8 g8 a8; have O8 := Kept.mk o8.out; have P8 := Kept.mk (apart_in P7.out.2 (O7.out.alloc (.cells #[.int .u8 (bits .xor .u8 c 92)] 5)) g8 a8); have B8 := Kept.mk ((B7.out.alloc B7.out.size (.cells #[.int .u8 (bits .xor .u8 c 92)] 5)).trans (own_below (P7.out.1.alloc (.cells #[.int .u8 (bits .xor .u8 c 92)] 5)) g8 (by have := B7.out.size; simp; omega))); clear o8 g8 a8))
          go_roundw
          case rel =>
            refine ⟨k + 1, v7, v8, by omega, rfl, rfl, by go_num, ⟨?_⟩, ⟨?_⟩, ⟨P8.out.2⟩, ⟨R0.out.below B8.out⟩, B8⟩
            · have := P8.out.1
              rw [← ints_append, ← T54.out] at this
              exact this
            · have := O8.out
              rw [← ints_append, ← T92.out] at this
              exact this
          case measure => simp [intOf]; omega
        · have hin' : ¬ (k : Int) < (32 : Nat) := by omega
          rw [at_out (l := (sha key)) (by rw [R.out.1]; omega)] at T54 T92
          go_wp2_with (first
            | ((with_reducible refine sel 30 ?_); refine wpList_append_rda rfl (.tmp 26) (.tmp 29) 29 rfl w0.heap.size 5 Try.underlying29 info_u8 vi k _ rfl (OI.out.alloc _) _ 1 1 [bits .xor .u8 0 54] rfl (rd_one _ _ (bits8 _ _ _)) (by omega) (by have := B.out.size; simp; omega) ?_; intro v7 w7 o7 g7 a7; have O7 := Kept.mk o7.out; have P7 := Kept.mk (apart_in AP.out (OO.out.alloc (.cells #[.int .u8 (bits .xor .u8 0 54)] 5)) g7 a7); have B7 := Kept.mk ((B.out.alloc B.out.size (.cells #[.int .u8 (bits .xor .u8 0 54)] 5)).trans (own_below (OI.out.alloc (.cells #[.int .u8 (bits .xor .u8 0 54)] 5)) g7 (by have := B.out.size; simp; omega))); clear o7 g7 a7)
            | ((with_reducible refine sel 35 ?_); refine wpList_append_rda rfl (.tmp 31) (.tmp 34) 29 rfl w0.heap.size 5 Try.underlying29 info_u8 vo k _ rfl (P7.out.1.alloc _) _ 1 1 [bits .xor .u8 0 92] rfl (rd_one _ _ (bits8 _ _ _)) (by omega) (by have := B7.out.size; simp; omega) ?_; intro v8 w8 o8 g8 a8; have O8 := Kept.mk o8.out; have P8 := Kept.mk (apart_in P7.out.2 (O7.out.alloc (.cells #[.int .u8 (bits .xor .u8 0 92)] 5)) g8 a8); have B8 := Kept.mk ((B7.out.alloc B7.out.size (.cells #[.int .u8 (bits .xor .u8 0 92)] 5)).trans (own_below (P7.out.1.alloc (.cells #[.int .u8 (bits .xor .u8 0 92)] 5)) g8 (by have := B7.out.size; simp; omega))); clear o8 g8 a8))
          go_roundw
          case rel =>
            refine ⟨k + 1, v7, v8, by omega, rfl, rfl, by go_num, ⟨?_⟩, ⟨?_⟩, ⟨P8.out.2⟩, ⟨R0.out.below B8.out⟩, B8⟩
            · have := P8.out.1
              rw [← ints_append, ← T54.out] at this
              exact this
            · have := O8.out
              rw [← ints_append, ← T92.out] at this
              exact this
          case measure => simp [intOf]; omega
      · have hk64 : k = 64 := by omega
        subst hk64
        have k64 : ¬ ((64 : Nat) : Int) < 64 := by omega
        rw [List.take_of_length_le (Nat.le_of_eq (kp_len _ _))] at OI OO
        go_wp2_with ((with_reducible refine sel 39 ?_); refine wpList_append_rda rfl (.tmp 37) (.tmp 38) 29 rfl w0.heap.size 5 Try.underlying29 info_u8 vi 64 _ rfl OI.out Bb nb cb text rfl (RB'.out.below B.out) (by omega) B.out.size ?_; intro v7 w7 o7 g7 a7; rw [← ints_append] at o7; have P7 := Kept.mk (apart_in AP.out OO.out g7 a7).1; have B7 := Kept.mk (B.out.trans (own_below OI.out g7 B.out.size)); obtain ⟨A7, c7, rfl, -, -, r7⟩ := own_rd o7.out ((kp_bytes _ _).append RB'.out.2.1); have R7 := Kept.mk r7; clear o7 g7 a7 r7)
        refine (rhash_any A7 (64 + nb) c7 (kp (sha key) 54 ++ text) w7 R7.out (by omega)).mono ?_
        rintro e w8 ⟨M8, c8, rfl, -, -, -, r8, b8⟩
        have O8 := Kept.mk (own_bar P7.out (barOf b8 []) (by simp))
        have R8 := Kept.mk r8
        have B8 := Kept.mk (B7.out.trans (b8.mono B7.out.size))
        clear r8 b8 P7 R7 B7 OI OO AP B R
        go_wp2_with ((with_reducible refine sel 41 ?_); refine wpList_append_rda rfl (.tmp 36) (.tmp 40) 29 rfl w0.heap.size 5 Try.underlying29 info_u8 vo 64 _ rfl O8.out (some ⟨M8, 0, none⟩) 32 c8 (sha (kp (sha key) 54 ++ text)) rfl R8.out (by omega) B8.out.size ?_; intro v9 w9 o9 g9 a9; rw [← ints_append] at o9; have B9 := Kept.mk (B8.out.trans (own_below O8.out g9 B8.out.size)); obtain ⟨A9, c9, rfl, -, -, r9⟩ := own_rd o9.out ((kp_bytes _ _).append (sha_bytes _)); have R9 := Kept.mk r9; clear o9 g9 a9 r9)
        refine (rhash_any A9 (64 + 32) c9 (kp (sha key) 92 ++ sha (kp (sha key) 54 ++ text)) w9 R9.out (by omega)).mono ?_
        rintro e w10 ⟨M10, c10, rfl, hM10, hc10, hm10, r10, b10⟩
        have R10 := Kept.mk r10
        have B10 := Kept.mk (B0.out.trans ((B9.out.trans (b10.mono B9.out.size)).mono B0.out.size))
        have hw10 : w.heap.size ≤ M10 := by have := B0.out.size; have := B9.out.size; omega
        clear r10 b10 R9 B9 O8 R8 B8
        go_wp2
        go_ret
        refine ⟨M10, c10, rfl, hw10, hc10, hm10, ?_, B10.out⟩
        show Rd w10 _ 32 (hmacK (keyOf key) text)
        rw [hbig'.out]
        exact R10.out
  · have hbig' := Kept.mk (keyOf_small (key := key) (by rw [LA.out]; exact hbig))
    have B0 : Kept (Below w.heap.size w w) := ⟨Below.refl _ _⟩
    have R0 := RA
    have RB' := RB
    go_enter Try.func24, Try.ntmps24
    go_wp2
    go_loopw [5, 6, 7] (fun vi vo i wr => ∃ (k : Nat) (ui uo : Value), k ≤ 64 ∧ ui = vi ∧ uo = vo ∧ i = .int .i64 k ∧ Kept (wr.ownsRow w.heap.size 5 1 ui k (ints .u8 ((kp key 54).take k))) ∧ Kept (wr.ownsRow w.heap.size 5 1 uo k (ints .u8 ((kp key 92).take k))) ∧ Kept (Apart ui uo) ∧ Kept (Rd wr A na key) ∧ Kept (Below w.heap.size w wr)) (fun _ _ i _ => 64 - (intOf i).toNat)
    case atStart => exact ⟨0, .slice none 0 0, .slice none 0 0, by omega, rfl, rfl, rfl, ⟨World.ownsRow_nil _ _ _ _⟩, ⟨World.ownsRow_nil _ _ _ _⟩, ⟨fun g h => by simp [Value.ownBlock] at h⟩, R0, ⟨Below.refl _ _⟩⟩
    case round =>
      obtain ⟨k, vi, vo, hk, rfl, rfl, rfl, OI, OO, AP, R, B⟩ := hrel
      by_cases h64 : k < 64
      · have k64 : (k : Int) < 64 := by omega
        have T54 := Kept.mk (kp_take key 54 k h64)
        have T92 := Kept.mk (kp_take key 92 k h64)
        by_cases hin : k < na
        · obtain ⟨bb, oo, rfl, hc⟩ := R.out.2.2.resolve_left (by omega)
          have hin' : (k : Int) < (na : Nat) := by omega
          have x0 := hc k hin
          try rw [Nat.zero_add] at x0
          have hx := R.out.2.1.at_ k
          generalize at_ key k = c at *
          obtain ⟨hx0, hx1⟩ := hx
          clear hc
          go_wp2_with (first
            | ((with_reducible refine sel 30 ?_); refine wpList_append_rda rfl (.tmp 26) (.tmp 29) 29 rfl w.heap.size 5 Try.underlying29 info_u8 vi k _ rfl (OI.out.alloc _) _ 1 1 [bits .xor .u8 c 54] rfl (rd_one _ _ (bits8 _ _ _)) (by omega) (by have := B.out.size; simp; omega) ?_; intro v7 w7 o7 g7 a7; have O7 := Kept.mk o7.out; have P7 := Kept.mk (apart_in AP.out (OO.out.alloc (.cells #[.int .u8 (bits .xor .u8 c 54)] 5)) g7 a7); have B7 := Kept.mk ((B.out.alloc B.out.size (.cells #[.int .u8 (bits .xor .u8 c 54)] 5)).trans (own_below (OI.out.alloc (.cells #[.int .u8 (bits .xor .u8 c 54)] 5)) g7 (by have := B.out.size; simp; omega))); clear o7 g7 a7)
            | ((with_reducible refine sel 35 ?_); refine wpList_append_rda rfl (.tmp 31) (.tmp 34) 29 rfl w.heap.size 5 Try.underlying29 info_u8 vo k _ rfl (P7.out.1.alloc _) _ 1 1 [bits .xor .u8 c 92] rfl (rd_one _ _ (bits8 _ _ _)) (by omega) (by have := B7.out.size; simp; omega) ?_; intro v8 w8 o8 g8 a8; have O8 := Kept.mk o8.out; have P8 := Kept.mk (apart_in P7.out.2 (O7.out.alloc (.cells #[.int .u8 (bits .xor .u8 c 92)] 5)) g8 a8); have B8 := Kept.mk ((B7.out.alloc B7.out.size (.cells #[.int .u8 (bits .xor .u8 c 92)] 5)).trans (own_below (P7.out.1.alloc (.cells #[.int .u8 (bits .xor .u8 c 92)] 5)) g8 (by have := B7.out.size; simp; omega))); clear o8 g8 a8))
          go_roundw
          case rel =>
            refine ⟨k + 1, v7, v8, by omega, rfl, rfl, by go_num, ⟨?_⟩, ⟨?_⟩, ⟨P8.out.2⟩, ⟨R0.out.below B8.out⟩, B8⟩
            · have := P8.out.1
              rw [← ints_append, ← T54.out] at this
              exact this
            · have := O8.out
              rw [← ints_append, ← T92.out] at this
              exact this
          case measure => simp [intOf]; omega
        · have hin' : ¬ (k : Int) < (na : Nat) := by omega
          rw [at_out (l := key) (by rw [R.out.1]; omega)] at T54 T92
          go_wp2_with (first
            | ((with_reducible refine sel 30 ?_); refine wpList_append_rda rfl (.tmp 26) (.tmp 29) 29 rfl w.heap.size 5 Try.underlying29 info_u8 vi k _ rfl (OI.out.alloc _) _ 1 1 [bits .xor .u8 0 54] rfl (rd_one _ _ (bits8 _ _ _)) (by omega) (by have := B.out.size; simp; omega) ?_; intro v7 w7 o7 g7 a7; have O7 := Kept.mk o7.out; have P7 := Kept.mk (apart_in AP.out (OO.out.alloc (.cells #[.int .u8 (bits .xor .u8 0 54)] 5)) g7 a7); have B7 := Kept.mk ((B.out.alloc B.out.size (.cells #[.int .u8 (bits .xor .u8 0 54)] 5)).trans (own_below (OI.out.alloc (.cells #[.int .u8 (bits .xor .u8 0 54)] 5)) g7 (by have := B.out.size; simp; omega))); clear o7 g7 a7)
            | ((with_reducible refine sel 35 ?_); refine wpList_append_rda rfl (.tmp 31) (.tmp 34) 29 rfl w.heap.size 5 Try.underlying29 info_u8 vo k _ rfl (P7.out.1.alloc _) _ 1 1 [bits .xor .u8 0 92] rfl (rd_one _ _ (bits8 _ _ _)) (by omega) (by have := B7.out.size; simp; omega) ?_; intro v8 w8 o8 g8 a8; have O8 := Kept.mk o8.out; have P8 := Kept.mk (apart_in P7.out.2 (O7.out.alloc (.cells #[.int .u8 (bits .xor .u8 0 92)] 5)) g8 a8); have B8 := Kept.mk ((B7.out.alloc B7.out.size (.cells #[.int .u8 (bits .xor .u8 0 92)] 5)).trans (own_below (P7.out.1.alloc (.cells #[.int .u8 (bits .xor .u8 0 92)] 5)) g8 (by have := B7.out.size; simp; omega))); clear o8 g8 a8))
          go_roundw
          case rel =>
            refine ⟨k + 1, v7, v8, by omega, rfl, rfl, by go_num, ⟨?_⟩, ⟨?_⟩, ⟨P8.out.2⟩, ⟨R0.out.below B8.out⟩, B8⟩
            · have := P8.out.1
              rw [← ints_append, ← T54.out] at this
              exact this
            · have := O8.out
              rw [← ints_append, ← T92.out] at this
              exact this
          case measure => simp [intOf]; omega
      · have hk64 : k = 64 := by omega
        subst hk64
        have k64 : ¬ ((64 : Nat) : Int) < 64 := by omega
        rw [List.take_of_length_le (Nat.le_of_eq (kp_len _ _))] at OI OO
        go_wp2_with ((with_reducible refine sel 39 ?_); refine wpList_append_rda rfl (.tmp 37) (.tmp 38) 29 rfl w.heap.size 5 Try.underlying29 info_u8 vi 64 _ rfl OI.out Bb nb cb text rfl (RB'.out.below B.out) (by omega) B.out.size ?_; intro v7 w7 o7 g7 a7; rw [← ints_append] at o7; have P7 := Kept.mk (apart_in AP.out OO.out g7 a7).1; have B7 := Kept.mk (B.out.trans (own_below OI.out g7 B.out.size)); obtain ⟨A7, c7, rfl, -, -, r7⟩ := own_rd o7.out ((kp_bytes _ _).append RB'.out.2.1); have R7 := Kept.mk r7; clear o7 g7 a7 r7)
        refine (rhash_any A7 (64 + nb) c7 (kp key 54 ++ text) w7 R7.out (by omega)).mono ?_
        rintro e w8 ⟨M8, c8, rfl, -, -, -, r8, b8⟩
        have O8 := Kept.mk (own_bar P7.out (barOf b8 []) (by simp))
        have R8 := Kept.mk r8
        have B8 := Kept.mk (B7.out.trans (b8.mono B7.out.size))
        clear r8 b8 P7 R7 B7 OI OO AP B R
        go_wp2_with ((with_reducible refine sel 41 ?_); refine wpList_append_rda rfl (.tmp 36) (.tmp 40) 29 rfl w.heap.size 5 Try.underlying29 info_u8 vo 64 _ rfl O8.out (some ⟨M8, 0, none⟩) 32 c8 (sha (kp key 54 ++ text)) rfl R8.out (by omega) B8.out.size ?_; intro v9 w9 o9 g9 a9; rw [← ints_append] at o9; have B9 := Kept.mk (B8.out.trans (own_below O8.out g9 B8.out.size)); obtain ⟨A9, c9, rfl, -, -, r9⟩ := own_rd o9.out ((kp_bytes _ _).append (sha_bytes _)); have R9 := Kept.mk r9; clear o9 g9 a9 r9)
        refine (rhash_any A9 (64 + 32) c9 (kp key 92 ++ sha (kp key 54 ++ text)) w9 R9.out (by omega)).mono ?_
        rintro e w10 ⟨M10, c10, rfl, hM10, hc10, hm10, r10, b10⟩
        have R10 := Kept.mk r10
        have B10 := Kept.mk (B0.out.trans ((B9.out.trans (b10.mono B9.out.size)).mono B0.out.size))
        have hw10 : w.heap.size ≤ M10 := by have := B0.out.size; have := B9.out.size; omega
        clear r10 b10 R9 B9 O8 R8 B8
        go_wp2
        go_ret
        refine ⟨M10, c10, rfl, hw10, hc10, hm10, ?_, B10.out⟩
        show Rd w10 _ 32 (hmacK (keyOf key) text)
        rw [hbig'.out]
        exact R10.out
end Go.Proofs.Ytblhfbpokfegnaa.Mac
