/-
  Parts laid together: EscrowText.
-/
import Derived.Test.YtcebjpfmpagfjaaPart4
import Derived.Test.YtcebjpfmpagfjaaPart16
import Derived.Test.YtcebjpfmpagfjaaPart9
import Derived.Test.YtcebjpfmpagfjaaPart6

namespace Go.Proofs.Ytcebjpfmpagfjaa.Escrow
open Go.RowKit Go.Proofs.Ytcebjpfmpagfjaa.Sha Go.Proofs.Ytcebjpfmpagfjaa.Purse Go.Proofs.Ytcebjpfmpagfjaa.Num

/-- the first k of 32 are s -/
def fillTo (s : Int) (k : Nat) : List Int := (List.range 32).map fun j => if j < k then s else 0
def secretOf (s : Int) : List Int := fillTo s 32
theorem fillTo_len (s : Int) (k : Nat) : (fillTo s k).length = 32 := by simp [fillTo]
theorem fillTo_0 (s : Int) : fillTo s 0 = List.replicate 32 0 := by
  apply List.ext_getElem
  · simp [fillTo]
  · intro i h1 h2
    simp only [fillTo, List.getElem_map, List.getElem_replicate, Nat.not_lt_zero, if_false]
theorem fillTo_step (s : Int) (k : Nat) : (fillTo s k).set k s = fillTo s (k + 1) := by
  apply at_ext
  · simp [fillTo]
  · intro i hi
    rw [List.length_set, fillTo_len] at hi
    rw [at_set _ _ _ _ (by rw [fillTo_len]; exact hi)]
    unfold fillTo
    rw [at_range _ _ _ hi, at_range _ _ _ hi]
    by_cases hk : k = i
    · subst hk; rw [if_pos rfl, if_pos (by omega)]
    · rw [if_neg hk]
      by_cases h2 : i < k
      · rw [if_pos h2, if_pos (by omega)]
      · rw [if_neg h2, if_neg (by omega)]
theorem secretOf_len (s : Int) : (secretOf s).length = 32 := fillTo_len s 32
theorem secretOf_bytes {s : Int} (h : 0 ≤ s ∧ s ≤ 255) : Bytes (secretOf s) := by
  intro x hx
  obtain ⟨j, -, rfl⟩ := List.mem_map.1 hx
  split <;> omega
def StrPost (w : World) (xs : List Int) (e : Ending) (w' : World) : Prop := e = .returned (.string (strOfNums xs)) ∧ Below w.heap.size w w'
set_option maxRecDepth 100000 in
set_option maxHeartbeats 1000000 in
theorem secret_any (w : World) (s : Int) (hs : 0 ≤ s ∧ s ≤ 255) : Calls Try.prog 18 #[.int .u8 s] w (StrPost w (secretOf s)) := by
  obtain ⟨w2, hmk, k2, b2⟩ := make_blk w 32 (by omega)
  rw [← fillTo_0 s] at k2
  rw [show ((32 : Nat) : Int) = 32 from rfl] at hmk
  have K0 := Kept.mk k2
  have BB := Kept.mk b2
  have HS := Kept.mk hs
  clear k2 b2 hs
  go_enter Try.func18, Try.ntmps18
  go_wp2
  clear hmk
  go_loopw [4] (fun j wr => ∃ k : Nat, k ≤ 32 ∧ j = .int .i64 k ∧ Kept (Blk wr w.heap.size 5 (arr .u8 (fillTo s k))) ∧ Kept (Below w.heap.size w wr)) (fun j _ => 32 - (intOf j).toNat)
  case atStart => exact ⟨0, by omega, rfl, K0, BB⟩
  case round =>
    clear K0 BB
    obtain ⟨k, hk, rfl, K0, BB⟩ := hrel
    by_cases hkL : k < 32
    · have hkL' : (k : Int) < 32 := by omega
      have x0 := K0.out.at_ k (by rw [fillTo_len]; exact hkL)
      have z0 := K0.out.frozen k
      have HT := Kept.mk (fillTo_step s k)
      generalize at_ (fillTo s k) k = y at *
      go_wp2
      go_roundw
      case rel =>
        refine ⟨k + 1, by omega, by go_num, ⟨?_⟩, ⟨BB.out.setCell (by simp) _⟩⟩
        have := K0.out.set_ k (.int .u8 s)
        rw [arr_set, HT.out] at this
        exact this
      case measure => simp [intOf]; omega
    · have hkL' : ¬ (k : Int) < 32 := by omega
      obtain rfl : k = 32 := by omega
      have hcv := conv_same (cap := 32) (Rd.blk K0.out (secretOf_bytes HS.out) (fillTo_len s 32))
      have P1 : Kept (StrPost w (secretOf s) (.returned (.string (strOfNums (fillTo s 32)))) wr) := ⟨rfl, BB.out⟩
      generalize strOfNums (fillTo s 32) = Z at *
      go_wp2
      go_ret
      exact P1.out
/-- an operation of the laws -/
structure OE where
  kind : Int
  who : Int
  dst : Int
  asset : Int
  amount : Int
  id : Int
  due : Int
  clock : Int
  hash : List Int
  known : Bool
  s : Int
def opC (o : OE) : Array Value := #[.int .i64 o.kind, .int .i64 o.who, .int .i64 o.dst, .int .i64 o.asset, .int .i64 o.amount, .int .i64 o.id, .int .i64 o.due, .int .i64 o.clock, .string (strOfNums o.hash), .bool o.known, .int .u8 o.s]
def textE (o : OE) : List Int := if o.known = false then o.hash else if o.kind = 0 then sha (secretOf o.s) else secretOf o.s
structure OE.ok (o : OE) : Prop where
  s : 0 ≤ o.s ∧ o.s ≤ 255
  hash : Bytes o.hash
theorem textE_bytes {o : OE} (h : o.ok) : Bytes (textE o) := by
  unfold textE
  split
  · exact h.hash
  · split
    · exact sha_bytes _
    · exact secretOf_bytes h.s
set_option maxRecDepth 100000 in
set_option maxHeartbeats 1000000 in
theorem text_any (w : World) (o : OE) (h : o.ok) : Calls Try.prog 13 #[.agg (opC o)] w (StrPost w (textE o)) := by
  obtain ⟨kd, i, j, a, n, id, du, ck, hs, kn, s⟩ := o
  have b0 : Below w.heap.size w (w.alloc (.cells (opC ⟨kd, i, j, a, n, id, du, ck, hs, kn, s⟩) 32)) := (Below.refl _ _).alloc (Nat.le_refl _) _
  have B0 := Kept.mk b0
  have S := Kept.mk h.s
  clear b0 h
  unfold opC at *
  dsimp only at *
  cases kn with
  | false =>
    rw [show textE ⟨kd, i, j, a, n, id, du, ck, hs, false, s⟩ = hs from rfl]
    go_enter Try.func13, Try.ntmps13
    go_wp2
    go_ret
    exact ⟨rfl, B0.out⟩
  | true =>
    by_cases hk : kd = 0
    · subst hk
      rw [show textE ⟨0, i, j, a, n, id, du, ck, hs, true, s⟩ = sha (secretOf s) from rfl]
      go_enter Try.func13, Try.ntmps13
      go_wp2_with fail
      refine (secret_any _ s S.out).mono ?_
      rintro e w1 ⟨rfl, b1⟩
      obtain ⟨w2, c2, hcv, r2, b2⟩ := to_bytes w1 (secretOf s) (secretOf_bytes S.out)
      rw [secretOf_len] at hcv r2
      have B2 := Kept.mk ((B0.out.trans (b1.mono B0.out.size)).trans (b2.mono (B0.out.trans (b1.mono B0.out.size)).size))
      clear b1 b2 B0
      go_wp2_with fail
      refine (rhash_any _ 32 c2 (secretOf s) w2 r2 (by decide)).mono ?_
      rintro e w3 ⟨M, mc, rfl, hM, m1, m2, rd, b3⟩
      have hcv2 := conv_same (cap := mc) rd
      have B3 := Kept.mk (B2.out.trans (b3.mono B2.out.size))
      clear hcv r2 b3 B2
      go_wp2
      go_ret
      exact ⟨rfl, B3.out⟩
    · rw [show textE ⟨kd, i, j, a, n, id, du, ck, hs, true, s⟩ = secretOf s from by unfold textE; rw [if_neg (by simp), if_neg hk]]
      have hk' : (kd == 0) = false := beq_eq_false_iff_ne.2 hk
      go_enter Try.func13, Try.ntmps13
      go_wp2_with fail
      refine (secret_any _ s S.out).mono ?_
      rintro e w1 ⟨rfl, b1⟩
      have B2 := Kept.mk (B0.out.trans (b1.mono B0.out.size))
      clear b1 B0
      go_wp2
      go_ret
      exact ⟨rfl, B2.out⟩
end Go.Proofs.Ytcebjpfmpagfjaa.Escrow
