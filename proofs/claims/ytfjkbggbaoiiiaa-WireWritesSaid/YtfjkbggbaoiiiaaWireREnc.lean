/-
  The document's own Enc.
-/
import Derived.Test.YtfjkbggbaoiiiaaWireEnc
import Derived.Test.YtfjkbggbaoiiiaaWireFits
import Derived.Deep.QuietTactic
import Derived.BigQuiet
namespace Go.Proofs.Ytfjkbggbaoiiiaa.Wire
open Go.RowKit Go.Proofs.Ytfjkbggbaoiiiaa.Sha

set_option maxRecDepth 100000 in
set_option maxHeartbeats 1000000 in
theorem rfits_any (n s : Int) (w : World) : Calls Try.prog 35 #[.int .i64 n, .int .i64 s] w fun e w' => e = .returned (.bool (fits n s)) ∧ w = w' := by
  rcases errs_cases n s with ⟨h1, h8, h0, hm, hu, hi, HQ⟩ | ⟨hf, hc⟩
  · by_cases h9 : s = 8
    · subst h9
      have hf : fits n 8 = true := by rw [← HQ.out]; rfl
      rw [hf]
      clear HQ hf
      go_enter Try.func35, Try.ntmps35
      go_wp2
      go_ret
      exact ⟨rfl, rfl⟩
    · go_enter Try.func35, Try.ntmps35
      go_wp2
      go_ret
      exact ⟨by rw [← HQ.out]; rfl, rfl⟩
  · rw [hf]
    clear hf
    rcases hc with hc | ⟨hc1, hc⟩ | ⟨hc1, hc2, hc⟩ | ⟨hc1, hc2, hc3, hc⟩
    all_goals
      go_enter Try.func35, Try.ntmps35
      go_wp2
      go_ret
      exact ⟨rfl, rfl⟩

def PutPost (n s : Nat) (w : World) (e : Ending) (w' : World) : Prop := ∃ g c, e = .returned (.slice (some ⟨g, 0, none⟩) s c) ∧ w.heap.size ≤ g ∧ Rd w' (some ⟨g, 0, none⟩) s (be n s) ∧ Below w.heap.size w w'

set_option maxRecDepth 100000 in
set_option maxHeartbeats 1000000 in
theorem rput_any (n s : Nat) (w : World) (h1 : 1 ≤ s) (hs : s ≤ 8) : Calls Try.prog 37 #[.int .i64 n, .int .i64 s] w (PutPost n s w) := by
  go_enter Try.func37, Try.ntmps37
  go_wp2
  go_loopw [5, 6] (fun v i wr => ∃ (k : Nat) (cur : List Int) (u : Value), k ≤ s ∧ u = v ∧ i = .int .i64 ((k : Int) - 1) ∧ Kept (cur ++ be n k = be n s) ∧ Kept (wr.ownsRow w.heap.size 5 1 u cur.length (ints .u8 cur)) ∧ Kept (Below w.heap.size w wr)) (fun _ i _ => (intOf i + 1).toNat)
  case atStart => exact ⟨s, [], _, by omega, rfl, by go_num, ⟨rfl⟩, ⟨World.ownsRow_nil _ _ _ _⟩, ⟨Below.refl _ _⟩⟩
  case round =>
    obtain ⟨k, cur, v, hk, rfl, rfl, HC, OW, BW⟩ := hrel
    have hsz : cur.length + k = s := by
      have := congrArg List.length HC.out
      simpa only [List.length_append, be_len] using this
    by_cases h0 : k = 0
    · subst h0
      have hc := HC.out
      simp only [be, List.append_nil] at hc
      subst hc
      rw [be_len] at OW
      obtain ⟨g, cap, rfl, hg, -⟩ := OW.out.form (by omega)
      obtain ⟨A7, c7, e7, -, -, r7⟩ := own_rd OW.out (be_bytes n s)
      injection e7 with e7 _ e8
      subst e7 e8
      have R7 := Kept.mk r7
      clear r7 HC OW
      go_wp2
      go_ret
      exact ⟨g, cap, rfl, hg, R7.out, BW.out⟩
    · obtain ⟨j, rfl⟩ : ∃ j, k = j + 1 := ⟨k - 1, by omega⟩
      obtain ⟨b, hbb⟩ : ∃ b : Int, ((n / 256 ^ j % 256 : Nat) : Int) = b := ⟨_, rfl⟩
      have hb0 : 0 ≤ b ∧ b ≤ 255 := by
        have : n / 256 ^ j % 256 < 256 := Nat.mod_lt _ (by omega)
        omega
      have hB := byte_is n j
      have hm : IntKind.i64.wrap (8 * (j : Int)) = 8 * j := by rw [IntKind.wrap_i64]; omega
      have hu : IntKind.u64.wrap (8 * (j : Int)) = 8 * j := by rw [IntKind.wrap_u64]; omega
      rw [hbb] at hB
      have hB2 : IntKind.u8.wrap ((n : Int) / 2 ^ (8 * j)) = b := by rw [← hB, show (8 * (j : Int)).toNat = 8 * j by omega]
      have hbe : be n (j + 1) = b :: be n j := by rw [be, hbb]
      have HBE := Kept.mk hbe
      clear hbb hbe
      go_wp2_with ((with_reducible refine sel 21 ?_); refine wpList_append_rd rfl (.tmp 13) (.tmp 20) 27 rfl w.heap.size 5 Try.underlying27 info_u8 v cur.length _ rfl (OW.out.alloc _) (some ⟨wr.heap.size, 0, none⟩) 1 1 [b] rfl (rd_one wr b hb0) (by omega) (by have := BW.out.size; simp; omega) ?_; intro v7 w7 o7 g7; have B7 := Kept.mk ((BW.out.alloc BW.out.size (.cells #[.int .u8 b] 5)).trans (own_below (OW.out.alloc (.cells #[.int .u8 b] 5)) g7 (by have := BW.out.size; simp; omega))); rw [← ints_append] at o7; have O7 := Kept.mk o7.out; clear o7 g7)
      go_roundw
      case rel =>
        refine ⟨j, cur ++ [b], v7, by omega, rfl, by go_num, ⟨?_⟩, ⟨?_⟩, B7⟩
        · have := HC.out
          rw [HBE.out] at this
          rw [List.append_assoc]
          exact this
        · rw [List.length_append]; exact O7.out
      case measure => simp [intOf]
end Go.Proofs.Ytfjkbggbaoiiiaa.Wire
