/-
  Parts laid together: EscrowText EscrowRef4.
-/
import Derived.Test.YtcebjpfmpagfjaaGreatPart4
import Derived.Test.YtcebjpfmpagfjaaGreatPart17
import Derived.Test.YtcebjpfmpagfjaaGreatPart9
import Derived.Test.YtcebjpfmpagfjaaGreatPart6

namespace Go.Proofs.YtcebjpfmpagfjaaGreat.Escrow
open Go.RowKit Go.Proofs.YtcebjpfmpagfjaaGreat.Sha Go.Proofs.YtcebjpfmpagfjaaGreat.Purse Go.Proofs.YtcebjpfmpagfjaaGreat.Num

/-- the first k of 32 are s -/
def fillTo (s : Int) (k : Nat) : List Int := (List.range 32).map fun j => if j < k then s else 0
def secretOf (s : Int) : List Int := fillTo s 32
theorem fillTo_len (s : Int) (k : Nat) : (fillTo s k).length = 32 := by simp [fillTo]
theorem fillTo_0 (s : Int) : fillTo s 0 = List.replicate 32 0 := by
  apply List.ext_getElem
  · simp [fillTo]
  · intro i h1 h2
    simp only [fillTo, List.getElem_map, List.getElem_replicate, Nat.not_lt_zero, if_false]
theorem fillTo_step (s : Int) (k : Nat) : (fillTo s k).set k s = fillTo s (k + 1) := by
  apply at_ext
  · simp [fillTo]
  · intro i hi
    rw [List.length_set, fillTo_len] at hi
    rw [at_set _ _ _ _ (by rw [fillTo_len]; exact hi)]
    unfold fillTo
    rw [at_range _ _ _ hi, at_range _ _ _ hi]
    by_cases hk : k = i
    · subst hk; rw [if_pos rfl, if_pos (by omega)]
    · rw [if_neg hk]
      by_cases h2 : i < k
      · rw [if_pos h2, if_pos (by omega)]
      · rw [if_neg h2, if_neg (by omega)]
theorem secretOf_len (s : Int) : (secretOf s).length = 32 := fillTo_len s 32
theorem secretOf_bytes {s : Int} (h : 0 ≤ s ∧ s ≤ 255) : Bytes (secretOf s) := by
  intro x hx
  obtain ⟨j, -, rfl⟩ := List.mem_map.1 hx
  split <;> omega
def StrPost (w : World) (xs : List Int) (e : Ending) (w' : World) : Prop := e = .returned (.string (strOfNums xs)) ∧ Below w.heap.size w w'
set_option maxRecDepth 100000 in
set_option maxHeartbeats 1000000 in
theorem secret_any (w : World) (s : Int) (hs : 0 ≤ s ∧ s ≤ 255) : Calls Tryz.prog 26 #[.int .u8 s] w (StrPost w (secretOf s)) := by
  obtain ⟨w2, hmk, k2, b2⟩ := make_blk w 32 (by omega)
  rw [← fillTo_0 s] at k2
  rw [show ((32 : Nat) : Int) = 32 from rfl] at hmk
  have K0 := Kept.mk k2
  have BB := Kept.mk b2
  have HS := Kept.mk hs
  clear k2 b2 hs
  go_enter Tryz.func26, Tryz.ntmps26
  go_wp2
  clear hmk
  go_loopw [4] (fun j wr => ∃ k : Nat, k ≤ 32 ∧ j = .int .i64 k ∧ Kept (Blk wr w.heap.size 5 (arr .u8 (fillTo s k))) ∧ Kept (Below w.heap.size w wr)) (fun j _ => 32 - (intOf j).toNat)
  case atStart => exact ⟨0, by omega, rfl, K0, BB⟩
  case round =>
    clear K0 BB
    obtain ⟨k, hk, rfl, K0, BB⟩ := hrel
    by_cases hkL : k < 32
    · have hkL' : (k : Int) < 32 := by omega
      have x0 := K0.out.at_ k (by rw [fillTo_len]; exact hkL)
      have z0 := K0.out.frozen k
      have HT := Kept.mk (fillTo_step s k)
      generalize at_ (fillTo s k) k = y at *
      go_wp2
      go_roundw
      case rel =>
        refine ⟨k + 1, by omega, by go_num, ⟨?_⟩, ⟨BB.out.setCell (by simp) _⟩⟩
        have := K0.out.set_ k (.int .u8 s)
        rw [arr_set, HT.out] at this
        exact this
      case measure => simp [intOf]; omega
    · have hkL' : ¬ (k : Int) < 32 := by omega
      obtain rfl : k = 32 := by omega
      have hcv := conv_same (cap := 32) (Rd.blk K0.out (secretOf_bytes HS.out) (fillTo_len s 32))
      have P1 : Kept (StrPost w (secretOf s) (.returned (.string (strOfNums (fillTo s 32)))) wr) := ⟨rfl, BB.out⟩
      generalize strOfNums (fillTo s 32) = Z at *
      go_wp2
      go_ret
      exact P1.out
/-- an operation of the laws -/
structure OE where
  kind : Int
  who : Int
  dst : Int
  asset : Int
  amount : Int
  id : Int
  due : Int
  clock : Int
  hash : List Int
  known : Bool
  s : Int
def opC (o : OE) : Array Value := #[.int .i64 o.kind, .int .i64 o.who, .int .i64 o.dst, .int .i64 o.asset, .int .i64 o.amount, .int .i64 o.id, .int .i64 o.due, .int .i64 o.clock, .string (strOfNums o.hash), .bool o.known, .int .u8 o.s]
def textE (o : OE) : List Int := if o.known = false then o.hash else if o.kind = 0 then sha (secretOf o.s) else secretOf o.s
structure OE.ok (o : OE) : Prop where
  s : 0 ≤ o.s ∧ o.s ≤ 255
  hash : Bytes o.hash
theorem textE_bytes {o : OE} (h : o.ok) : Bytes (textE o) := by
  unfold textE
  split
  · exact h.hash
  · split
    · exact sha_bytes _
    · exact secretOf_bytes h.s
set_option maxRecDepth 100000 in
set_option maxHeartbeats 1000000 in
theorem text_any (w : World) (o : OE) (h : o.ok) : Calls Tryz.prog 11 #[.agg (opC o)] w (StrPost w (textE o)) := by
  obtain ⟨kd, i, j, a, n, id, du, ck, hs, kn, s⟩ := o
  have b0 : Below w.heap.size w (w.alloc (.cells (opC ⟨kd, i, j, a, n, id, du, ck, hs, kn, s⟩) 40)) := (Below.refl _ _).alloc (Nat.le_refl _) _
  have B0 := Kept.mk b0
  have S := Kept.mk h.s
  clear b0 h
  unfold opC at *
  dsimp only at *
  cases kn with
  | false =>
    rw [show textE ⟨kd, i, j, a, n, id, du, ck, hs, false, s⟩ = hs from rfl]
    go_enter Tryz.func11, Tryz.ntmps11
    go_wp2
    go_ret
    exact ⟨rfl, B0.out⟩
  | true =>
    by_cases hk : kd = 0
    · subst hk
      rw [show textE ⟨0, i, j, a, n, id, du, ck, hs, true, s⟩ = sha (secretOf s) from rfl]
      go_enter Tryz.func11, Tryz.ntmps11
      go_wp2_with fail
      refine (secret_any _ s S.out).mono ?_
      rintro e w1 ⟨rfl, b1⟩
      obtain ⟨w2, c2, hcv, r2, b2⟩ := to_bytes w1 (secretOf s) (secretOf_bytes S.out)
      rw [secretOf_len] at hcv r2
      have B2 := Kept.mk ((B0.out.trans (b1.mono B0.out.size)).trans (b2.mono (B0.out.trans (b1.mono B0.out.size)).size))
      clear b1 b2 B0
      go_wp2_with fail
      refine (rhash_any _ 32 c2 (secretOf s) w2 r2 (by decide)).mono ?_
      rintro e w3 ⟨M, mc, rfl, hM, m1, m2, rd, b3⟩
      have hcv2 := conv_same (cap := mc) rd
      have B3 := Kept.mk (B2.out.trans (b3.mono B2.out.size))
      clear hcv r2 b3 B2
      go_wp2
      go_ret
      exact ⟨rfl, B3.out⟩
    · rw [show textE ⟨kd, i, j, a, n, id, du, ck, hs, true, s⟩ = secretOf s from by unfold textE; rw [if_neg (by simp), if_neg hk]]
      have hk' : (kd == 0) = false := beq_eq_false_iff_ne.2 hk
      go_enter Tryz.func11, Tryz.ntmps11
      go_wp2_with fail
      refine (secret_any _ s S.out).mono ?_
      rintro e w1 ⟨rfl, b1⟩
      have B2 := Kept.mk (B0.out.trans (b1.mono B0.out.size))
      clear b1 B0
      go_wp2
      go_ret
      exact ⟨rfl, B2.out⟩
end Go.Proofs.YtcebjpfmpagfjaaGreat.Escrow

namespace Go.Proofs.YtcebjpfmpagfjaaGreat.Escrow
open Go.RowKit Go.Proofs.YtcebjpfmpagfjaaGreat.Sha Go.Proofs.YtcebjpfmpagfjaaGreat.Purse Go.Proofs.YtcebjpfmpagfjaaGreat.Num

section
variable {w : World} {F : List Nat} {x q : Nat} {b : BS}
set_option maxRecDepth 100000 in
set_option maxHeartbeats 4000000 in
theorem rclaim_any (h : Rk w F x q b) (who id clock : Int) (s : List Int) (hb : Bytes s) (hh : ∀ k, k < b.l.length → Bytes (atE b.l k).hash) : Calls Tryz.prog 14 #[.pointer (some ⟨x, 0, none⟩), .int .i64 who, .int .i64 id, .string (strOfNums s), .int .i64 clock] w (BookPost (fun w' F' b' => Rk w' F' x q b') w F (claimB b who id s clock)) := by
  obtain ⟨A, c, x1, hc, hcm⟩ := h.list
  have H := Kept.mk h
  clear h
  by_cases h0 : id < 0
  · rw [claim_none (.inl h0)]
    clear hb hh
    go_enter Tryz.func14, Tryz.ntmps14
    go_wp2
    go_ret
    exact ⟨rfl, F, H.out, Fp.refl _ _⟩
  · by_cases h1 : (b.l.length : Int) ≤ id
    · rw [claim_none (.inr h1)]
      clear hb hh
      generalize b.l.length = n at *
      go_enter Tryz.func14, Tryz.ntmps14
      go_wp2
      go_ret
      exact ⟨rfl, F, H.out, Fp.refl _ _⟩
    · obtain ⟨k, rfl⟩ : ∃ k : Nat, id = k := ⟨id.toNat, by omega⟩
      have hk : k < b.l.length := by omega
      rw [claim_some hk]
      obtain ⟨G, v, g1, h2, h3, h4, h5, h6⟩ := H.out
      obtain ⟨g, c', hv, -, -, fz, y0, y1, y2, y3, y4, y5, y6, y7⟩ := h3.cells hk
      subst hv
      have x1' := h2.cell 1
      have x0 : w.cell? ⟨x, 0, none⟩ = some (.pointer (some ⟨q, 0, none⟩)) := h2.cell 0
      rw [x1] at x1'
      simp only [Array.getElem?_eq_getElem, List.size_toArray, List.length_cons, List.length_nil, Nat.lt_add_one, List.getElem_toArray, List.getElem_cons_succ, List.getElem_cons_zero, Option.some.injEq, Value.slice.injEq] at x1'
      obtain ⟨rfl, -, rfl⟩ := x1'
      have gl : g < w.heap.size := World.block_lt_of_cell? _ _ y0
      have xl : x < w.heap.size := h2.lt
      have bz : ∀ o, Below w.heap.size w (w.alloc o) := fun o => (Below.refl _ _).alloc (Nat.le_refl _) o
      have PE0 : Kept (∀ w', Below w.heap.size w w' → Rk w' F x q b ∧ Fp F F w w') := ⟨fun w' bb => ⟨H.out.below bb, barOf bb _, fun _ hk => .inl hk⟩⟩
      have hT0 : Kept (∀ w', Below w.heap.size w w' → ∀ i a m, Calls Tryz.prog 45 #[.pointer (some ⟨q, 0, none⟩), .int .i64 i, .int .i64 a, .int .i64 m] w' (StepPost (fun w' F' s' => Pr w' F' q s') w' G (giveP b.p i a m))) := ⟨fun w' bb i a m => rgive_any i a m ⟨g1.1, g1.2.below bb⟩⟩
      have B0 : Kept (∀ w', Below w.heap.size w w' → Blk w' x 34 #[.pointer (some ⟨q, 0, none⟩), .slice (some ⟨g, 0, none⟩) b.l.length c]) := ⟨fun w' bb => h2.bar (barOf bb []) (by simp)⟩
      have E0 : Kept (∀ w', Below w.heap.size w w' → El w' (.slice (some ⟨g, 0, none⟩) b.l.length c) b.l) := ⟨fun w' bb => h3.keep (barOf bb []) (fun _ _ => by simp)⟩
      have D0 := Kept.mk h4; have X0 := Kept.mk h5; have H6 := Kept.mk h6
      have GX := Kept.mk (h4 g (Option.mem_toList.2 rfl)).2
      clear g1 h2 h3 h4 h5 h6
      have TI := Kept.mk (fun w => rtick_any clock w)
      have hE := hh k hk
      obtain ⟨es, ed, ea, en, eu, et, eh, ec, hev⟩ : ∃ es ed ea en eu et eh ec, atE b.l k = ⟨es, ed, ea, en, eu, et, eh, ec⟩ := ⟨_, _, _, _, _, _, _, _, rfl⟩
      rw [hev] at y0 y1 y2 y3 y4 y5 y6 y7 hE ⊢
      dsimp only at y0 y1 y2 y3 y4 y5 y6 y7 hE ⊢
      have HE := Kept.mk hev
      clear hev hh
      have PE := Kept.mk (PE0.out _ (bz (.cells #[.int .i64 es, .int .i64 ed, .int .i64 ea, .int .i64 en, .int .i64 eu, .int .i64 et, .string (strOfNums eh), .string (strOfNums ec)] 47)))
      have BZ := Kept.mk (bz (.cells #[.int .i64 es, .int .i64 ed, .int .i64 ea, .int .i64 en, .int .i64 eu, .int .i64 et, .string (strOfNums eh), .string (strOfNums ec)] 47))
      clear bz
      have x2 := (BZ.out.cell (p := ⟨x, 1, none⟩) (World.block_lt_of_cell? _ _ x1)).trans x1
      have x3 := (BZ.out.cell (p := ⟨x, 0, none⟩) (World.block_lt_of_cell? _ _ x0)).trans x0
      have NEWS := (new_cells w 47 (evC ⟨es, ed, ea, en, eu, et, eh, ec⟩))
      have n1 : (w.alloc (.cells #[.int .i64 es, .int .i64 ed, .int .i64 ea, .int .i64 en, .int .i64 eu, .int .i64 et, .string (strOfNums eh), .string (strOfNums ec)] 47)).cell? ⟨w.heap.size, 1, none⟩ = some (.int .i64 ed) := NEWS 1 _ rfl
      have n2 : (w.alloc (.cells #[.int .i64 es, .int .i64 ed, .int .i64 ea, .int .i64 en, .int .i64 eu, .int .i64 et, .string (strOfNums eh), .string (strOfNums ec)] 47)).cell? ⟨w.heap.size, 2, none⟩ = some (.int .i64 ea) := NEWS 2 _ rfl
      have n3 : (w.alloc (.cells #[.int .i64 es, .int .i64 ed, .int .i64 ea, .int .i64 en, .int .i64 eu, .int .i64 et, .string (strOfNums eh), .string (strOfNums ec)] 47)).cell? ⟨w.heap.size, 3, none⟩ = some (.int .i64 en) := NEWS 3 _ rfl
      have n6 : (w.alloc (.cells #[.int .i64 es, .int .i64 ed, .int .i64 ea, .int .i64 en, .int .i64 eu, .int .i64 et, .string (strOfNums eh), .string (strOfNums ec)] 47)).cell? ⟨w.heap.size, 6, none⟩ = some (.string (strOfNums eh)) := NEWS 6 _ rfl
      clear NEWS
      obtain ⟨n, hn⟩ : ∃ n, b.l.length = n := ⟨_, rfl⟩
      have HN := Kept.mk hn
      rw [hn] at x1 x2 hc hk h1
      clear hn
      obtain ⟨L, hL⟩ : ∃ L, s.length = L := ⟨_, rfl⟩
      have hsz : (strOfNums s).size = L := by rw [strOfNums_size, hL]
      rw [hL]
      by_cases hw : ed = who
      · subst hw
        rw [if_neg (fun e => e rfl)]
        by_cases hs : et = 0
        · subst hs
          rw [if_neg (fun e => e rfl)]
          by_cases hd : eu ≤ clock
          · rw [if_pos (.inl hd)]
            go_enter Tryz.func14, Tryz.ntmps14
            go_wp2_with (go_at_call 41; (with_reducible refine (TI.out _).mono ?_); rintro e w' ⟨rfl, rfl⟩)
            go_ret
            exact ⟨rfl, F, PE.out⟩
          · cases ht : tickB clock with
            | false =>
              rw [if_pos (.inr rfl)]
              rw [ht] at TI
              go_enter Tryz.func14, Tryz.ntmps14
              go_wp2_with (go_at_call 41; (with_reducible refine (TI.out _).mono ?_); rintro e w' ⟨rfl, rfl⟩)
              go_ret
              exact ⟨rfl, F, PE.out⟩
            | true =>
              rw [if_neg (fun e => e.elim hd (by simp))]
              rw [ht] at TI
              clear ht
              by_cases h32 : L ≠ 32
              · rw [if_pos h32]
                have h32' : ¬ (L : Int) = 32 := by omega
                go_enter Tryz.func14, Tryz.ntmps14
                go_wp2_with (go_at_call 41; (with_reducible refine (TI.out _).mono ?_); rintro e w' ⟨rfl, rfl⟩)
                go_ret
                exact ⟨rfl, F, PE.out⟩
              · rw [if_neg h32]
                obtain rfl : L = 32 := Decidable.not_not.1 h32
                clear h32 PE
                by_cases hsh : sha s = eh
                · rw [if_neg (fun e => e hsh)]
                  have heq : ((strOfNums (sha s)).toList == (strOfNums eh).toList) = true := by rw [hsh]; exact beq_self_eq_true _
                  obtain ⟨te, ts, hT⟩ : ∃ te ts, giveP b.p ed ea en = (te, ts) := ⟨_, _, rfl⟩
                  rw [hT]
                  by_cases h0 : te = 0
                  · subst h0
                    rw [if_neg (fun e => e rfl)]
                    go_enter Tryz.func14, Tryz.ntmps14
                    go_upto_region 12 with (go_at_call 41; (with_reducible refine (TI.out _).mono ?_); rintro e w' ⟨rfl, rfl⟩)
                    generalize (w.alloc (.cells #[.int .i64 es, .int .i64 ed, .int .i64 ea, .int .i64 en, .int .i64 eu, .int .i64 0, .string (strOfNums eh), .string (strOfNums ec)] 47)) = wz at *
                    clear y0 y1 y2 y3 y4 y5 y6 y7 x0 x1 fz TI
                    obtain ⟨w1, c1, hcv, r1, b1⟩ : ∃ w1 c1, (convert 9 69 (.string (strOfNums s))).run Tryz.prog wz.drew = .ok (.slice (some ⟨wz.heap.size, 0, none⟩) s.length c1) w1 ∧ Rd w1 (some ⟨wz.heap.size, 0, none⟩) s.length s ∧ Below wz.heap.size wz.drew w1 := to_bytes wz.drew s hb
                    rw [hL] at hcv r1
                    have HH := Kept.mk (rhash_any _ 32 c1 s w1 r1 (by decide))
                    have b1' : Below wz.heap.size wz w1 := ⟨b1.os, b1.tape, b1.output, b1.size, b1.block⟩
                    have NB : Kept (∀ w', Below w1.heap.size w1 w' → w'.cell? ⟨w.heap.size, 6, none⟩ = some (.string (strOfNums eh))) := ⟨fun w' bb => ((b1'.trans (bb.mono b1'.size)).cell (p := ⟨w.heap.size, 6, none⟩) (World.block_lt_of_cell? _ _ n6)).trans n6⟩
                    have NK := NB.out _ (Below.refl _ _)
                    have B1 := Kept.mk b1'
                    clear r1 b1 b1'
                    have HELD0 : (fun w' : World => w'.cell? ⟨w.heap.size, 6, none⟩ = some (.string (strOfNums eh))) wz.drew := n6
                    refine wp_region_noPanic ?_
                    refine wp_region_held_drew (S := fun w' : World => w'.cell? ⟨w.heap.size, 6, none⟩ = some (.string (strOfNums eh))) (by kernel_rfl) HELD0 (fun hHeld => ?_)
                    refine wpAnyH_take (i := 0) (oi := ?o43) (v := ?v43) ?hi43 (by kernel_rfl) (by kernel_rfl) (by kernel_rfl) ?hq43 (Or.inl ⟨?hw43, ?hy43⟩) (by assumption) ?r43
                    case hi43 => (simp only [List.getElem?_toArray, List.getElem?_cons_zero]; exact rfl)
                    case hq43 => exact fun _ _ _ h => h
                    case hw43 => rfl
                    case hy43 => (intro w hSw; (try dsimp only at hSw); go_simp; try exact rfl)
                    simp only [Act.put, List.setIfInBounds_toArray, List.set_cons_zero, List.set_cons_succ]
                    refine wpAnyH_take (i := 4) (oi := ?o44) (v := ?v44) ?hi44 (by kernel_rfl) (by kernel_rfl) (by kernel_rfl) ?hq44 (Or.inl ⟨?hw44, ?hy44⟩) (by assumption) ?r44
                    case hi44 => (simp only [List.getElem?_toArray, List.getElem?_cons_succ, List.getElem?_cons_zero]; exact rfl)
                    case hq44 => exact fun _ _ _ h => h
                    case hw44 => rfl
                    case hy44 => (intro w hSw; (try dsimp only at hSw); go_simp; try exact rfl)
                    simp only [Act.put, List.setIfInBounds_toArray, List.set_cons_zero, List.set_cons_succ]
                    refine wpAnyH_take (i := 5) (oi := ?o45) (v := ?v45) ?hi45 (by kernel_rfl) (by kernel_rfl) (by kernel_rfl) ?hq45 (Or.inl ⟨?hw45, ?hy45⟩) (by assumption) ?r45
                    case hi45 => (simp only [List.getElem?_toArray, List.getElem?_cons_succ, List.getElem?_cons_zero]; exact rfl)
                    case hq45 => exact fun _ _ _ h => h
                    case hw45 => rfl
                    case hy45 => (intro w hSw; (try dsimp only at hSw); go_simp; try exact rfl)
                    simp only [Act.put, List.setIfInBounds_toArray, List.set_cons_zero, List.set_cons_succ]
                    refine wpAnyH_ready (rs := [1]) (by kernel_rfl) (by simp) ?_
                    refine AllReadyH.cons (o := ?o73) ?hi73 (fun K hK => ?_) AllReadyH.nil
                    case hi73 => (simp only [List.getElem?_toArray, List.getElem?_cons_succ, List.getElem?_cons_zero]; exact rfl)
                    go_simp
                    refine hK.out _ _ NK (fun hHeld2 => ?_)
                    clear hK K hHeld HELD0
                    try simp only [Act.put, List.setIfInBounds_toArray, List.set_cons_zero, List.set_cons_succ]
                    refine wpAnyH_ready (rs := [2]) (by kernel_rfl) (by simp) ?_
                    refine AllReadyH.cons (o := ?o74) ?hi74 (fun K hK => ?_) AllReadyH.nil
                    case hi74 => (simp only [List.getElem?_toArray, List.getElem?_cons_succ, List.getElem?_cons_zero]; exact rfl)
                    go_simp
                    go_at_call 38
                    refine HH.out.mono ?_
                    rintro e w3 ⟨M, mc, rfl, hM, m1, m2, rd, b3⟩
                    have hcv2 := conv_same (cap := mc) rd
                    refine hK.out _ _ (NB.out _ b3) (fun hHeld3 => ?_)
                    clear hK K hHeld2
                    try simp only [Act.put, List.setIfInBounds_toArray, List.set_cons_zero, List.set_cons_succ]
                    refine wpAnyH_ready (rs := [3]) (by kernel_rfl) (by simp) ?_
                    refine AllReadyH.cons (o := ?o75) ?hi75 (fun K hK => ?_) AllReadyH.nil
                    case hi75 => (simp only [List.getElem?_toArray, List.getElem?_cons_succ, List.getElem?_cons_zero]; exact rfl)
                    go_simp
                    refine hK.out _ _ hHeld3 (fun hHeld4 => ?_)
                    clear hK K hHeld3
                    try simp only [Act.put, List.setIfInBounds_toArray, List.set_cons_zero, List.set_cons_succ]
                    refine wpAnyH_take (i := 6) (oi := ?o46) (v := ?v46) ?hi46 (by kernel_rfl) (by kernel_rfl) (by kernel_rfl) ?hq46 (Or.inl ⟨?hw46, ?hy46⟩) (by assumption) ?r46
                    case hi46 => (simp only [List.getElem?_toArray, List.getElem?_cons_succ, List.getElem?_cons_zero]; exact rfl)
                    case hq46 => exact fun _ _ _ h => h
                    case hw46 => rfl
                    case hy46 => (intro w hSw; (try dsimp only at hSw); go_simp; try exact rfl)
                    simp only [Act.put, List.setIfInBounds_toArray, List.set_cons_zero, List.set_cons_succ]
                    refine wpAnyH_take (i := 7) (oi := ?o47) (v := ?v47) ?hi47 (by kernel_rfl) (by kernel_rfl) (by kernel_rfl) ?hq47 (Or.inl ⟨?hw47, ?hy47⟩) (by assumption) ?r47
                    case hi47 => (simp only [List.getElem?_toArray, List.getElem?_cons_succ, List.getElem?_cons_zero]; exact rfl)
                    case hq47 => exact fun _ _ _ h => h
                    case hw47 => rfl
                    case hy47 => (intro w hSw; (try dsimp only at hSw); go_simp; try exact rfl)
                    simp only [Act.put, List.setIfInBounds_toArray, List.set_cons_zero, List.set_cons_succ]
                    refine wpAnyH_done (by kernel_rfl) ?_ _
                    refine NoPanic.normal ?_
                    go_wp2_with fail
                    have B3 := Kept.mk (B1.out.trans (b3.mono B1.out.size))
                    have BW := Kept.mk (BZ.out.trans (B3.out.mono BZ.out.size))
                    have bd := BW.out.drew
                    have GT := Kept.mk (hT0.out w3.drew bd ed ea en)
                    have Bz := Kept.mk (B0.out w3.drew bd)
                    have Ez := Kept.mk (E0.out w3.drew bd)
                    have PE := Kept.mk (PE0.out w3.drew bd)
                    have k0 := (B3.out.cell (p := ⟨x, 0, none⟩) (World.block_lt_of_cell? _ _ x3)).trans x3
                    have k1 := (B3.out.cell (p := ⟨w.heap.size, 1, none⟩) (World.block_lt_of_cell? _ _ n1)).trans n1
                    have k2 := (B3.out.cell (p := ⟨w.heap.size, 2, none⟩) (World.block_lt_of_cell? _ _ n2)).trans n2
                    have k3 := (B3.out.cell (p := ⟨w.heap.size, 3, none⟩) (World.block_lt_of_cell? _ _ n3)).trans n3
                    rw [hT] at GT
                    clear bd n1 n2 n3 n6 x2 x3 hcv hcv2 rd b3 B1 B3 BZ BW hT0 B0 E0 PE0 NB NK HH
                    refine wp_region_still_tail 10 (by kernel_rfl) (by kernel_rfl) ?_
                    simp only [List.take_succ_cons, List.take_zero, List.drop_succ_cons, List.drop_zero]
                    repeat still_step
                    refine wpStill_nil ?_
                    change wpList _ _ _ _ _ w3.drew
                    go_wp2_with fail
                    refine GT.out.mono ?_
                    rintro e w2 ⟨rfl, G', hp, fp⟩
                    have hp : Pr w2.drew G' q ts := ⟨hp.1, hp.2.keep ((Bar.refl [] w2).drew) (fun _ _ => by simp)⟩
                    have fp : Fp G G' w3.drew w2.drew := ⟨fp.1.drew, fp.2⟩
                    have RP := rk_purse Bz.out Ez.out D0.out X0.out H6.out fp
                    have PP := Kept.mk hp
                    have B2 := Kept.mk RP.1; have E2 := Kept.mk RP.2.1; have D2 := Kept.mk RP.2.2.1; have X2 := Kept.mk RP.2.2.2.1
                    have FF : Kept (Fp F _ w w2.drew) := ⟨Fp.trans PE.out.2 RP.2.2.2.2⟩
                    clear RP hp fp Bz Ez D0 X0 H6 GT PE
                    have R5 := Kept.mk (rk_turn (k := k) (j := 5) (u := .int .i64 1) (e := ⟨es, ed, ea, en, eu, 1, eh, ec⟩) PP.out B2.out E2.out (D2.out g (Option.mem_toList.2 rfl)).1 GX.out (by rw [HN.out]; exact hk) (by decide) (by rw [HE.out]; rfl))
                    have hk5 : k < (b.l.set k ⟨es, ed, ea, en, eu, 1, eh, ec⟩).length := by rw [List.length_set, HN.out]; exact hk
                    have R7 := Kept.mk (rk_turn (k := k) (j := 7) (u := .string (strOfNums s)) (e := ⟨es, ed, ea, en, eu, 1, eh, s⟩) R5.out.1 R5.out.2.1 R5.out.2.2.1 (D2.out g (Option.mem_toList.2 rfl)).1 GX.out hk5 (by decide) (by rw [atE_set _ (by rw [HN.out]; exact hk), if_pos rfl]; rfl))
                    rw [List.set_set] at R7
                    have x1 : w2.drew.cell? ⟨x, 1, none⟩ = some (.slice (some ⟨g, 0, none⟩) b.l.length c) := B2.out.cell 1
                    have x5 : (w2.drew.setCell ⟨g, k * 8 + 5, none⟩ (.int .i64 1)).cell? ⟨x, 1, none⟩ = some (.slice (some ⟨g, 0, none⟩) (b.l.set k ⟨es, ed, ea, en, eu, 1, eh, ec⟩).length c) := R5.out.2.1.cell 1
                    have x7 : ((w2.drew.setCell ⟨g, k * 8 + 5, none⟩ (.int .i64 1)).setCell ⟨g, k * 8 + 7, none⟩ (.string (strOfNums s))).cell? ⟨x, 1, none⟩ = some (.slice (some ⟨g, 0, none⟩) (b.l.set k ⟨es, ed, ea, en, eu, 1, eh, s⟩).length c) := R7.out.2.1.cell 1
                    rw [List.length_set, HN.out] at x5 x7
                    rw [HN.out] at x1
                    obtain ⟨g', c', hv, -, -, fz, -, -, -, -, -, y5, -, y7⟩ := E2.out.cells (k := k) (by rw [HN.out]; exact hk)
                    obtain ⟨rfl, -, -⟩ := by simpa using hv
                    have fz5 := fz (k * 8 + 5)
                    have fz7 : w2.frozen? ⟨g, k * 8 + 7, none⟩ = false := fz (k * 8 + 7)
                    have z7 : w2.cell? ⟨g, k * 8 + 7, none⟩ = some (.string (strOfNums (atE b.l k).secret)) := y7
                    clear fz hk5
                    go_wp2_with fail
                    have HELD0 : (fun w' : World => w'.cell? ⟨x, 1, none⟩ = some (.slice (some ⟨g, 0, none⟩) n c)) w2.drew := x1
                    refine wp_region_noPanic ?_
                    refine wp_region_held_drew (S := fun w' : World => w'.cell? ⟨x, 1, none⟩ = some (.slice (some ⟨g, 0, none⟩) n c)) (by kernel_rfl) HELD0 (fun hHeld => ?_)
                    refine wpAnyH_take (i := 0) (oi := ?o48) (v := ?v48) ?hi48 (by kernel_rfl) (by kernel_rfl) (by kernel_rfl) ?hq48 (Or.inl ⟨?hw48, ?hy48⟩) (by assumption) ?r48
                    case hi48 => (simp only [List.getElem?_toArray, List.getElem?_cons_zero]; exact rfl)
                    case hq48 => exact fun _ _ _ h => h
                    case hw48 => rfl
                    case hy48 => (intro w hSw; (try dsimp only at hSw); go_simp; try exact rfl)
                    simp only [Act.put, List.setIfInBounds_toArray, List.set_cons_zero, List.set_cons_succ]
                    refine wpAnyH_take (i := 1) (oi := ?o49) (v := ?v49) ?hi49 (by kernel_rfl) (by kernel_rfl) (by kernel_rfl) ?hq49 (Or.inl ⟨?hw49, ?hy49⟩) (by assumption) ?r49
                    case hi49 => (simp only [List.getElem?_toArray, List.getElem?_cons_succ, List.getElem?_cons_zero]; exact rfl)
                    case hq49 => exact fun _ _ _ h => h
                    case hw49 => rfl
                    case hy49 => (intro w hSw; (try dsimp only at hSw); go_simp; try exact rfl)
                    simp only [Act.put, List.setIfInBounds_toArray, List.set_cons_zero, List.set_cons_succ]
                    refine wpAnyH_take (i := 2) (oi := ?o50) (v := ?v50) ?hi50 (by kernel_rfl) (by kernel_rfl) (by kernel_rfl) ?hq50 (Or.inl ⟨?hw50, ?hy50⟩) (by assumption) ?r50
                    case hi50 => (simp only [List.getElem?_toArray, List.getElem?_cons_succ, List.getElem?_cons_zero]; exact rfl)
                    case hq50 => exact fun _ _ _ h => h
                    case hw50 => rfl
                    case hy50 => (intro w hSw; (try dsimp only at hSw); go_simp; try exact rfl)
                    simp only [Act.put, List.setIfInBounds_toArray, List.set_cons_zero, List.set_cons_succ]
                    refine wpAnyH_take (i := 3) (oi := ?o51) (v := ?v51) ?hi51 (by kernel_rfl) (by kernel_rfl) (by kernel_rfl) ?hq51 (Or.inl ⟨?hw51, ?hy51⟩) (by assumption) ?r51
                    case hi51 => (simp only [List.getElem?_toArray, List.getElem?_cons_succ, List.getElem?_cons_zero]; exact rfl)
                    case hq51 => exact fun _ _ _ h => h
                    case hw51 => rfl
                    case hy51 => (intro w hSw; (try dsimp only at hSw); go_simp; try exact rfl)
                    simp only [Act.put, List.setIfInBounds_toArray, List.set_cons_zero, List.set_cons_succ]
                    refine wpAnyH_take (i := 4) (oi := ?o52) (v := ?v52) ?hi52 (by kernel_rfl) (by kernel_rfl) (by kernel_rfl) ?hq52 (Or.inl ⟨?hw52, ?hy52⟩) (by assumption) ?r52
                    case hi52 => (simp only [List.getElem?_toArray, List.getElem?_cons_succ, List.getElem?_cons_zero]; exact rfl)
                    case hq52 => exact fun _ _ _ h => h
                    case hw52 => rfl
                    case hy52 => (intro w hSw; (try dsimp only at hSw); go_simp; try exact rfl)
                    simp only [Act.put, List.setIfInBounds_toArray, List.set_cons_zero, List.set_cons_succ]
                    refine wpAnyH_take (i := 5) (oi := ?o53) (v := ?v53) ?hi53 (by kernel_rfl) (by kernel_rfl) (by kernel_rfl) ?hq53 (Or.inl ⟨?hw53, ?hy53⟩) (by assumption) ?r53
                    case hi53 => (simp only [List.getElem?_toArray, List.getElem?_cons_succ, List.getElem?_cons_zero]; exact rfl)
                    case hq53 => exact fun _ _ _ h => h
                    case hw53 => rfl
                    case hy53 => (intro w hSw; (try dsimp only at hSw); go_simp; try exact rfl)
                    simp only [Act.put, List.setIfInBounds_toArray, List.set_cons_zero, List.set_cons_succ]
                    refine wpAnyH_take (i := 6) (oi := ?o54) (v := ?v54) ?hi54 (by kernel_rfl) (by kernel_rfl) (by kernel_rfl) ?hq54 (Or.inl ⟨?hw54, ?hy54⟩) (by assumption) ?r54
                    case hi54 => (simp only [List.getElem?_toArray, List.getElem?_cons_succ, List.getElem?_cons_zero]; exact rfl)
                    case hq54 => exact fun _ _ _ h => h
                    case hw54 => rfl
                    case hy54 => (intro w hSw; (try dsimp only at hSw); go_simp; try exact rfl)
                    simp only [Act.put, List.setIfInBounds_toArray, List.set_cons_zero, List.set_cons_succ]
                    refine wpAnyH_take (i := 7) (oi := ?o55) (v := ?v55) ?hi55 (by kernel_rfl) (by kernel_rfl) (by kernel_rfl) ?hq55 (Or.inl ⟨?hw55, ?hy55⟩) (by assumption) ?r55
                    case hi55 => (simp only [List.getElem?_toArray, List.getElem?_cons_succ, List.getElem?_cons_zero]; exact rfl)
                    case hq55 => exact fun _ _ _ h => h
                    case hw55 => rfl
                    case hy55 => (intro w hSw; (try dsimp only at hSw); go_simp; try exact rfl)
                    simp only [Act.put, List.setIfInBounds_toArray, List.set_cons_zero, List.set_cons_succ]
                    refine wpAnyH_take (i := 8) (oi := ?o56) (v := ?v56) ?hi56 (by kernel_rfl) (by kernel_rfl) (by kernel_rfl) ?hq56 (Or.inl ⟨?hw56, ?hy56⟩) (by assumption) ?r56
                    case hi56 => (simp only [List.getElem?_toArray, List.getElem?_cons_succ, List.getElem?_cons_zero]; exact rfl)
                    case hq56 => exact fun _ _ _ h => h
                    case hw56 => rfl
                    case hy56 => (intro w hSw; (try dsimp only at hSw); go_simp; try exact rfl)
                    simp only [Act.put, List.setIfInBounds_toArray, List.set_cons_zero, List.set_cons_succ]
                    refine wpAnyH_take (i := 9) (oi := ?o57) (v := ?v57) ?hi57 (by kernel_rfl) (by kernel_rfl) (by kernel_rfl) ?hq57 (Or.inl ⟨?hw57, ?hy57⟩) (by assumption) ?r57
                    case hi57 => (simp only [List.getElem?_toArray, List.getElem?_cons_succ, List.getElem?_cons_zero]; exact rfl)
                    case hq57 => exact fun _ _ _ h => h
                    case hw57 => rfl
                    case hy57 => (intro w hSw; (try dsimp only at hSw); go_simp; try exact rfl)
                    simp only [Act.put, List.setIfInBounds_toArray, List.set_cons_zero, List.set_cons_succ]
                    refine wpAnyH_take (i := 10) (oi := ?o58) (v := ?v58) ?hi58 (by kernel_rfl) (by kernel_rfl) (by kernel_rfl) ?hq58 (Or.inl ⟨?hw58, ?hy58⟩) (by assumption) ?r58
                    case hi58 => (simp only [List.getElem?_toArray, List.getElem?_cons_succ, List.getElem?_cons_zero]; exact rfl)
                    case hq58 => exact fun _ _ _ h => h
                    case hw58 => rfl
                    case hy58 => (intro w hSw; (try dsimp only at hSw); go_simp; try exact rfl)
                    simp only [Act.put, List.setIfInBounds_toArray, List.set_cons_zero, List.set_cons_succ]
                    refine wpAnyH_take (i := 11) (oi := ?o59) (v := ?v59) ?hi59 (by kernel_rfl) (by kernel_rfl) (by kernel_rfl) ?hq59 (Or.inl ⟨?hw59, ?hy59⟩) (by assumption) ?r59
                    case hi59 => (simp only [List.getElem?_toArray, List.getElem?_cons_succ, List.getElem?_cons_zero]; exact rfl)
                    case hq59 => exact fun _ _ _ h => h
                    case hw59 => rfl
                    case hy59 => (intro w hSw; (try dsimp only at hSw); go_simp; try exact rfl)
                    simp only [Act.put, List.setIfInBounds_toArray, List.set_cons_zero, List.set_cons_succ]
                    refine wpAnyH_take (i := 12) (oi := ?o60) (v := ?v60) ?hi60 (by kernel_rfl) (by kernel_rfl) (by kernel_rfl) ?hq60 (Or.inl ⟨?hw60, ?hy60⟩) (by assumption) ?r60
                    case hi60 => (simp only [List.getElem?_toArray, List.getElem?_cons_succ, List.getElem?_cons_zero]; exact rfl)
                    case hq60 => exact fun _ _ _ h => h
                    case hw60 => rfl
                    case hy60 => (intro w hSw; (try dsimp only at hSw); go_simp; try exact rfl)
                    simp only [Act.put, List.setIfInBounds_toArray, List.set_cons_zero, List.set_cons_succ]
                    refine wpAnyH_ready (rs := [13]) (by kernel_rfl) (by simp) ?_
                    refine AllReadyH.cons (o := ?o76) ?hi76 (fun K hK => ?_) AllReadyH.nil
                    case hi76 => (simp only [List.getElem?_toArray, List.getElem?_cons_succ, List.getElem?_cons_zero]; exact rfl)
                    go_simp
                    refine hK.out _ _ x5 (fun hHeld2 => ?_)
                    clear hK K hHeld HELD0
                    try simp only [Act.put, List.setIfInBounds_toArray, List.set_cons_zero, List.set_cons_succ]
                    refine wpAnyH_take (i := 14) (oi := ?o61) (v := ?v61) ?hi61 (by kernel_rfl) (by kernel_rfl) (by kernel_rfl) ?hq61 (Or.inl ⟨?hw61, ?hy61⟩) (by assumption) ?r61
                    case hi61 => (simp only [List.getElem?_toArray, List.getElem?_cons_succ, List.getElem?_cons_zero]; exact rfl)
                    case hq61 => exact fun _ _ _ h => h
                    case hw61 => rfl
                    case hy61 => (intro w hSw; (try dsimp only at hSw); go_simp; try exact rfl)
                    simp only [Act.put, List.setIfInBounds_toArray, List.set_cons_zero, List.set_cons_succ]
                    refine wpAnyH_take (i := 15) (oi := ?o62) (v := ?v62) ?hi62 (by kernel_rfl) (by kernel_rfl) (by kernel_rfl) ?hq62 (Or.inl ⟨?hw62, ?hy62⟩) (by assumption) ?r62
                    case hi62 => (simp only [List.getElem?_toArray, List.getElem?_cons_succ, List.getElem?_cons_zero]; exact rfl)
                    case hq62 => exact fun _ _ _ h => h
                    case hw62 => rfl
                    case hy62 => (intro w hSw; (try dsimp only at hSw); go_simp; try exact rfl)
                    simp only [Act.put, List.setIfInBounds_toArray, List.set_cons_zero, List.set_cons_succ]
                    refine wpAnyH_ready (rs := [16]) (by kernel_rfl) (by simp) ?_
                    refine AllReadyH.cons (o := ?o77) ?hi77 (fun K hK => ?_) AllReadyH.nil
                    case hi77 => (simp only [List.getElem?_toArray, List.getElem?_cons_succ, List.getElem?_cons_zero]; exact rfl)
                    go_simp
                    refine hK.out _ _ x7 (fun hHeld3 => ?_)
                    clear hK K hHeld2
                    try simp only [Act.put, List.setIfInBounds_toArray, List.set_cons_zero, List.set_cons_succ]
                    refine wpAnyH_done (by kernel_rfl) ?_ _
                    refine NoPanic.normal ?_
                    go_wp2
                    go_ret
                    exact ⟨rfl, _, ⟨G', _, R7.out.1, R7.out.2.1, R7.out.2.2.1, fun z hz => by
                      obtain rfl : z = g := (Option.some.inj (show some g = some z from Option.mem_toList.1 hz)).symm
                      exact ⟨(D2.out z (Option.mem_toList.2 rfl)).1, GX.out⟩, X2.out, rfl⟩, FF.out.trans (R5.out.2.2.2.trans R7.out.2.2.2)⟩
                  · rw [if_pos h0]
                    obtain rfl : ts = b.p := give_same hT h0
                    have h0' : (te == 0) = false := beq_eq_false_iff_ne.2 h0
                    go_enter Tryz.func14, Tryz.ntmps14
                    go_upto_region 12 with (go_at_call 41; (with_reducible refine (TI.out _).mono ?_); rintro e w' ⟨rfl, rfl⟩)
                    generalize (w.alloc (.cells #[.int .i64 es, .int .i64 ed, .int .i64 ea, .int .i64 en, .int .i64 eu, .int .i64 0, .string (strOfNums eh), .string (strOfNums ec)] 47)) = wz at *
                    clear y0 y1 y2 y3 y4 y5 y6 y7 x0 x1 fz TI
                    obtain ⟨w1, c1, hcv, r1, b1⟩ : ∃ w1 c1, (convert 9 69 (.string (strOfNums s))).run Tryz.prog wz.drew = .ok (.slice (some ⟨wz.heap.size, 0, none⟩) s.length c1) w1 ∧ Rd w1 (some ⟨wz.heap.size, 0, none⟩) s.length s ∧ Below wz.heap.size wz.drew w1 := to_bytes wz.drew s hb
                    rw [hL] at hcv r1
                    have HH := Kept.mk (rhash_any _ 32 c1 s w1 r1 (by decide))
                    have b1' : Below wz.heap.size wz w1 := ⟨b1.os, b1.tape, b1.output, b1.size, b1.block⟩
                    have NB : Kept (∀ w', Below w1.heap.size w1 w' → w'.cell? ⟨w.heap.size, 6, none⟩ = some (.string (strOfNums eh))) := ⟨fun w' bb => ((b1'.trans (bb.mono b1'.size)).cell (p := ⟨w.heap.size, 6, none⟩) (World.block_lt_of_cell? _ _ n6)).trans n6⟩
                    have NK := NB.out _ (Below.refl _ _)
                    have B1 := Kept.mk b1'
                    clear r1 b1 b1'
                    have HELD0 : (fun w' : World => w'.cell? ⟨w.heap.size, 6, none⟩ = some (.string (strOfNums eh))) wz.drew := n6
                    refine wp_region_noPanic ?_
                    refine wp_region_held_drew (S := fun w' : World => w'.cell? ⟨w.heap.size, 6, none⟩ = some (.string (strOfNums eh))) (by kernel_rfl) HELD0 (fun hHeld => ?_)
                    refine wpAnyH_take (i := 0) (oi := ?o63) (v := ?v63) ?hi63 (by kernel_rfl) (by kernel_rfl) (by kernel_rfl) ?hq63 (Or.inl ⟨?hw63, ?hy63⟩) (by assumption) ?r63
                    case hi63 => (simp only [List.getElem?_toArray, List.getElem?_cons_zero]; exact rfl)
                    case hq63 => exact fun _ _ _ h => h
                    case hw63 => rfl
                    case hy63 => (intro w hSw; (try dsimp only at hSw); go_simp; try exact rfl)
                    simp only [Act.put, List.setIfInBounds_toArray, List.set_cons_zero, List.set_cons_succ]
                    refine wpAnyH_take (i := 4) (oi := ?o64) (v := ?v64) ?hi64 (by kernel_rfl) (by kernel_rfl) (by kernel_rfl) ?hq64 (Or.inl ⟨?hw64, ?hy64⟩) (by assumption) ?r64
                    case hi64 => (simp only [List.getElem?_toArray, List.getElem?_cons_succ, List.getElem?_cons_zero]; exact rfl)
                    case hq64 => exact fun _ _ _ h => h
                    case hw64 => rfl
                    case hy64 => (intro w hSw; (try dsimp only at hSw); go_simp; try exact rfl)
                    simp only [Act.put, List.setIfInBounds_toArray, List.set_cons_zero, List.set_cons_succ]
                    refine wpAnyH_take (i := 5) (oi := ?o65) (v := ?v65) ?hi65 (by kernel_rfl) (by kernel_rfl) (by kernel_rfl) ?hq65 (Or.inl ⟨?hw65, ?hy65⟩) (by assumption) ?r65
                    case hi65 => (simp only [List.getElem?_toArray, List.getElem?_cons_succ, List.getElem?_cons_zero]; exact rfl)
                    case hq65 => exact fun _ _ _ h => h
                    case hw65 => rfl
                    case hy65 => (intro w hSw; (try dsimp only at hSw); go_simp; try exact rfl)
                    simp only [Act.put, List.setIfInBounds_toArray, List.set_cons_zero, List.set_cons_succ]
                    refine wpAnyH_ready (rs := [1]) (by kernel_rfl) (by simp) ?_
                    refine AllReadyH.cons (o := ?o78) ?hi78 (fun K hK => ?_) AllReadyH.nil
                    case hi78 => (simp only [List.getElem?_toArray, List.getElem?_cons_succ, List.getElem?_cons_zero]; exact rfl)
                    go_simp
                    refine hK.out _ _ NK (fun hHeld2 => ?_)
                    clear hK K hHeld HELD0
                    try simp only [Act.put, List.setIfInBounds_toArray, List.set_cons_zero, List.set_cons_succ]
                    refine wpAnyH_ready (rs := [2]) (by kernel_rfl) (by simp) ?_
                    refine AllReadyH.cons (o := ?o79) ?hi79 (fun K hK => ?_) AllReadyH.nil
                    case hi79 => (simp only [List.getElem?_toArray, List.getElem?_cons_succ, List.getElem?_cons_zero]; exact rfl)
                    go_simp
                    go_at_call 38
                    refine HH.out.mono ?_
                    rintro e w3 ⟨M, mc, rfl, hM, m1, m2, rd, b3⟩
                    have hcv2 := conv_same (cap := mc) rd
                    refine hK.out _ _ (NB.out _ b3) (fun hHeld3 => ?_)
                    clear hK K hHeld2
                    try simp only [Act.put, List.setIfInBounds_toArray, List.set_cons_zero, List.set_cons_succ]
                    refine wpAnyH_ready (rs := [3]) (by kernel_rfl) (by simp) ?_
                    refine AllReadyH.cons (o := ?o80) ?hi80 (fun K hK => ?_) AllReadyH.nil
                    case hi80 => (simp only [List.getElem?_toArray, List.getElem?_cons_succ, List.getElem?_cons_zero]; exact rfl)
                    go_simp
                    refine hK.out _ _ hHeld3 (fun hHeld4 => ?_)
                    clear hK K hHeld3
                    try simp only [Act.put, List.setIfInBounds_toArray, List.set_cons_zero, List.set_cons_succ]
                    refine wpAnyH_take (i := 6) (oi := ?o66) (v := ?v66) ?hi66 (by kernel_rfl) (by kernel_rfl) (by kernel_rfl) ?hq66 (Or.inl ⟨?hw66, ?hy66⟩) (by assumption) ?r66
                    case hi66 => (simp only [List.getElem?_toArray, List.getElem?_cons_succ, List.getElem?_cons_zero]; exact rfl)
                    case hq66 => exact fun _ _ _ h => h
                    case hw66 => rfl
                    case hy66 => (intro w hSw; (try dsimp only at hSw); go_simp; try exact rfl)
                    simp only [Act.put, List.setIfInBounds_toArray, List.set_cons_zero, List.set_cons_succ]
                    refine wpAnyH_take (i := 7) (oi := ?o67) (v := ?v67) ?hi67 (by kernel_rfl) (by kernel_rfl) (by kernel_rfl) ?hq67 (Or.inl ⟨?hw67, ?hy67⟩) (by assumption) ?r67
                    case hi67 => (simp only [List.getElem?_toArray, List.getElem?_cons_succ, List.getElem?_cons_zero]; exact rfl)
                    case hq67 => exact fun _ _ _ h => h
                    case hw67 => rfl
                    case hy67 => (intro w hSw; (try dsimp only at hSw); go_simp; try exact rfl)
                    simp only [Act.put, List.setIfInBounds_toArray, List.set_cons_zero, List.set_cons_succ]
                    refine wpAnyH_done (by kernel_rfl) ?_ _
                    refine NoPanic.normal ?_
                    go_wp2_with fail
                    have B3 := Kept.mk (B1.out.trans (b3.mono B1.out.size))
                    have BW := Kept.mk (BZ.out.trans (B3.out.mono BZ.out.size))
                    have bd := BW.out.drew
                    have GT := Kept.mk (hT0.out w3.drew bd ed ea en)
                    have Bz := Kept.mk (B0.out w3.drew bd)
                    have Ez := Kept.mk (E0.out w3.drew bd)
                    have PE := Kept.mk (PE0.out w3.drew bd)
                    have k0 := (B3.out.cell (p := ⟨x, 0, none⟩) (World.block_lt_of_cell? _ _ x3)).trans x3
                    have k1 := (B3.out.cell (p := ⟨w.heap.size, 1, none⟩) (World.block_lt_of_cell? _ _ n1)).trans n1
                    have k2 := (B3.out.cell (p := ⟨w.heap.size, 2, none⟩) (World.block_lt_of_cell? _ _ n2)).trans n2
                    have k3 := (B3.out.cell (p := ⟨w.heap.size, 3, none⟩) (World.block_lt_of_cell? _ _ n3)).trans n3
                    rw [hT] at GT
                    clear bd n1 n2 n3 n6 x2 x3 hcv hcv2 rd b3 B1 B3 BZ BW hT0 B0 E0 PE0 NB NK HH
                    refine wp_region_still_tail 10 (by kernel_rfl) (by kernel_rfl) ?_
                    simp only [List.take_succ_cons, List.take_zero, List.drop_succ_cons, List.drop_zero]
                    repeat still_step
                    refine wpStill_nil ?_
                    change wpList _ _ _ _ _ w3.drew
                    go_wp2_with fail
                    refine GT.out.mono ?_
                    rintro e w2 ⟨rfl, G', hp, fp⟩
                    have RP := rk_purse Bz.out Ez.out D0.out X0.out H6.out fp
                    have PP := Kept.mk hp
                    have B2 := Kept.mk RP.1; have E2 := Kept.mk RP.2.1; have D2 := Kept.mk RP.2.2.1; have X2 := Kept.mk RP.2.2.2.1
                    have FF : Kept (Fp F _ w w2) := ⟨Fp.trans PE.out.2 RP.2.2.2.2⟩
                    clear RP hp fp Bz Ez D0 X0 H6 GT PE
                    go_wp2
                    go_ret
                    exact ⟨rfl, _, ⟨G', _, PP.out, B2.out, E2.out, D2.out, X2.out, rfl⟩, FF.out⟩
                · rw [if_pos hsh]
                  have heq : ((strOfNums (sha s)).toList == (strOfNums eh).toList) = false := beq_eq_false_iff_ne.2 (fun e => hsh (strOfNums_inj (sha_bytes s) hE e))
                  go_enter Tryz.func14, Tryz.ntmps14
                  go_upto_region 12 with (go_at_call 41; (with_reducible refine (TI.out _).mono ?_); rintro e w' ⟨rfl, rfl⟩)
                  generalize (w.alloc (.cells #[.int .i64 es, .int .i64 ed, .int .i64 ea, .int .i64 en, .int .i64 eu, .int .i64 0, .string (strOfNums eh), .string (strOfNums ec)] 47)) = wz at *
                  clear y0 y1 y2 y3 y4 y5 y6 y7 x0 x1 fz TI
                  obtain ⟨w1, c1, hcv, r1, b1⟩ : ∃ w1 c1, (convert 9 69 (.string (strOfNums s))).run Tryz.prog wz.drew = .ok (.slice (some ⟨wz.heap.size, 0, none⟩) s.length c1) w1 ∧ Rd w1 (some ⟨wz.heap.size, 0, none⟩) s.length s ∧ Below wz.heap.size wz.drew w1 := to_bytes wz.drew s hb
                  rw [hL] at hcv r1
                  have HH := Kept.mk (rhash_any _ 32 c1 s w1 r1 (by decide))
                  have b1' : Below wz.heap.size wz w1 := ⟨b1.os, b1.tape, b1.output, b1.size, b1.block⟩
                  have NB : Kept (∀ w', Below w1.heap.size w1 w' → w'.cell? ⟨w.heap.size, 6, none⟩ = some (.string (strOfNums eh))) := ⟨fun w' bb => ((b1'.trans (bb.mono b1'.size)).cell (p := ⟨w.heap.size, 6, none⟩) (World.block_lt_of_cell? _ _ n6)).trans n6⟩
                  have NK := NB.out _ (Below.refl _ _)
                  have B1 := Kept.mk b1'
                  clear r1 b1 b1'
                  have HELD0 : (fun w' : World => w'.cell? ⟨w.heap.size, 6, none⟩ = some (.string (strOfNums eh))) wz.drew := n6
                  refine wp_region_noPanic ?_
                  refine wp_region_held_drew (S := fun w' : World => w'.cell? ⟨w.heap.size, 6, none⟩ = some (.string (strOfNums eh))) (by kernel_rfl) HELD0 (fun hHeld => ?_)
                  refine wpAnyH_take (i := 0) (oi := ?o68) (v := ?v68) ?hi68 (by kernel_rfl) (by kernel_rfl) (by kernel_rfl) ?hq68 (Or.inl ⟨?hw68, ?hy68⟩) (by assumption) ?r68
                  case hi68 => (simp only [List.getElem?_toArray, List.getElem?_cons_zero]; exact rfl)
                  case hq68 => exact fun _ _ _ h => h
                  case hw68 => rfl
                  case hy68 => (intro w hSw; (try dsimp only at hSw); go_simp; try exact rfl)
                  simp only [Act.put, List.setIfInBounds_toArray, List.set_cons_zero, List.set_cons_succ]
                  refine wpAnyH_take (i := 4) (oi := ?o69) (v := ?v69) ?hi69 (by kernel_rfl) (by kernel_rfl) (by kernel_rfl) ?hq69 (Or.inl ⟨?hw69, ?hy69⟩) (by assumption) ?r69
                  case hi69 => (simp only [List.getElem?_toArray, List.getElem?_cons_succ, List.getElem?_cons_zero]; exact rfl)
                  case hq69 => exact fun _ _ _ h => h
                  case hw69 => rfl
                  case hy69 => (intro w hSw; (try dsimp only at hSw); go_simp; try exact rfl)
                  simp only [Act.put, List.setIfInBounds_toArray, List.set_cons_zero, List.set_cons_succ]
                  refine wpAnyH_take (i := 5) (oi := ?o70) (v := ?v70) ?hi70 (by kernel_rfl) (by kernel_rfl) (by kernel_rfl) ?hq70 (Or.inl ⟨?hw70, ?hy70⟩) (by assumption) ?r70
                  case hi70 => (simp only [List.getElem?_toArray, List.getElem?_cons_succ, List.getElem?_cons_zero]; exact rfl)
                  case hq70 => exact fun _ _ _ h => h
                  case hw70 => rfl
                  case hy70 => (intro w hSw; (try dsimp only at hSw); go_simp; try exact rfl)
                  simp only [Act.put, List.setIfInBounds_toArray, List.set_cons_zero, List.set_cons_succ]
                  refine wpAnyH_ready (rs := [1]) (by kernel_rfl) (by simp) ?_
                  refine AllReadyH.cons (o := ?o81) ?hi81 (fun K hK => ?_) AllReadyH.nil
                  case hi81 => (simp only [List.getElem?_toArray, List.getElem?_cons_succ, List.getElem?_cons_zero]; exact rfl)
                  go_simp
                  refine hK.out _ _ NK (fun hHeld2 => ?_)
                  clear hK K hHeld HELD0
                  try simp only [Act.put, List.setIfInBounds_toArray, List.set_cons_zero, List.set_cons_succ]
                  refine wpAnyH_ready (rs := [2]) (by kernel_rfl) (by simp) ?_
                  refine AllReadyH.cons (o := ?o82) ?hi82 (fun K hK => ?_) AllReadyH.nil
                  case hi82 => (simp only [List.getElem?_toArray, List.getElem?_cons_succ, List.getElem?_cons_zero]; exact rfl)
                  go_simp
                  go_at_call 38
                  refine HH.out.mono ?_
                  rintro e w3 ⟨M, mc, rfl, hM, m1, m2, rd, b3⟩
                  have hcv2 := conv_same (cap := mc) rd
                  refine hK.out _ _ (NB.out _ b3) (fun hHeld3 => ?_)
                  clear hK K hHeld2
                  try simp only [Act.put, List.setIfInBounds_toArray, List.set_cons_zero, List.set_cons_succ]
                  refine wpAnyH_ready (rs := [3]) (by kernel_rfl) (by simp) ?_
                  refine AllReadyH.cons (o := ?o83) ?hi83 (fun K hK => ?_) AllReadyH.nil
                  case hi83 => (simp only [List.getElem?_toArray, List.getElem?_cons_succ, List.getElem?_cons_zero]; exact rfl)
                  go_simp
                  refine hK.out _ _ hHeld3 (fun hHeld4 => ?_)
                  clear hK K hHeld3
                  try simp only [Act.put, List.setIfInBounds_toArray, List.set_cons_zero, List.set_cons_succ]
                  refine wpAnyH_take (i := 6) (oi := ?o71) (v := ?v71) ?hi71 (by kernel_rfl) (by kernel_rfl) (by kernel_rfl) ?hq71 (Or.inl ⟨?hw71, ?hy71⟩) (by assumption) ?r71
                  case hi71 => (simp only [List.getElem?_toArray, List.getElem?_cons_succ, List.getElem?_cons_zero]; exact rfl)
                  case hq71 => exact fun _ _ _ h => h
                  case hw71 => rfl
                  case hy71 => (intro w hSw; (try dsimp only at hSw); go_simp; try exact rfl)
                  simp only [Act.put, List.setIfInBounds_toArray, List.set_cons_zero, List.set_cons_succ]
                  refine wpAnyH_take (i := 7) (oi := ?o72) (v := ?v72) ?hi72 (by kernel_rfl) (by kernel_rfl) (by kernel_rfl) ?hq72 (Or.inl ⟨?hw72, ?hy72⟩) (by assumption) ?r72
                  case hi72 => (simp only [List.getElem?_toArray, List.getElem?_cons_succ, List.getElem?_cons_zero]; exact rfl)
                  case hq72 => exact fun _ _ _ h => h
                  case hw72 => rfl
                  case hy72 => (intro w hSw; (try dsimp only at hSw); go_simp; try exact rfl)
                  simp only [Act.put, List.setIfInBounds_toArray, List.set_cons_zero, List.set_cons_succ]
                  refine wpAnyH_done (by kernel_rfl) ?_ _
                  refine NoPanic.normal ?_
                  go_wp2_with fail
                  go_ret
                  exact ⟨rfl, F, PE0.out _ (BZ.out.trans ((B1.out.trans (b3.mono B1.out.size)).mono BZ.out.size))⟩
        · rw [if_pos hs]
          have hs' : (et == 0) = false := beq_eq_false_iff_ne.2 hs
          go_enter Tryz.func14, Tryz.ntmps14
          go_wp2_with (go_at_call 41; (with_reducible refine (TI.out _).mono ?_); rintro e w' ⟨rfl, rfl⟩)
          go_ret
          exact ⟨rfl, F, PE.out⟩
      · rw [if_pos hw]
        have hw' : (ed == who) = false := beq_eq_false_iff_ne.2 hw
        go_enter Tryz.func14, Tryz.ntmps14
        go_wp2_with (go_at_call 41; (with_reducible refine (TI.out _).mono ?_); rintro e w' ⟨rfl, rfl⟩)
        go_ret
        exact ⟨rfl, F, PE.out⟩
end
end Go.Proofs.YtcebjpfmpagfjaaGreat.Escrow
