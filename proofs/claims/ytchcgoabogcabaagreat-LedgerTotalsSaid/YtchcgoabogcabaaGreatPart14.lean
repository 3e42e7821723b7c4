/-
  Parts laid together: ReqCGetText.
-/
import Derived.Test.YtchcgoabogcabaaGreatPart13
import Derived.Test.YtchcgoabogcabaaGreatPart9
import Derived.Test.YtchcgoabogcabaaGreatPart8
import Derived.Test.YtchcgoabogcabaaGreatPart11

namespace Go.Proofs.YtchcgoabogcabaaGreat.Req
open Go.RowKit Go.Proofs.YtchcgoabogcabaaGreat.Sha Go.Proofs.YtchcgoabogcabaaGreat.Wire

theorem make32 (w : World) : ∃ w', (Instr.makeSlice 26 (.int .i64 32) (.int .i64 32)).run Tryz.prog w = .ok (.slice (some ⟨w.heap.size, 0, none⟩) 32 32) w' ∧ Blk w' w.heap.size 5 (arr .u8 (List.replicate 32 0)) ∧ Below w.heap.size w w' := make_big w 32 (by omega)
theorem row_next (xs : List Int) (z : Int) (k : Nat) (hl : xs.length = k) (hk : k < 32) : (xs ++ List.replicate (32 - k) 0).set k z = (xs ++ [z]) ++ List.replicate (32 - (k + 1)) 0 := by
  obtain ⟨m, hm⟩ : ∃ m, 32 - k = m + 1 := ⟨32 - (k + 1), by omega⟩
  have h2 : 32 - (k + 1) = m := by omega
  rw [hm, h2, List.set_append_right _ _ (by omega), hl, Nat.sub_self, List.replicate_succ, List.set_cons_zero, List.append_assoc]
  rfl
theorem results_three {P : Program} {fn : Func} {a b c : Tmp} (h : fn.results = #[.tmp a, .tmp b, .tmp c]) (tmps : Array Value) (w : World) : (results fn tmps).run P w = .ok (.tuple #[tmps.getD a undef, tmps.getD b undef, tmps.getD c undef]) w := by
  simp [results, h]
set_option maxRecDepth 100000 in
set_option maxHeartbeats 1000000 in
theorem cgetmove_any {w : World} {d : Nat} {G : List Nat} {st : St} (h : De 157 w d G st) (hd : d ∉ G) : Calls Tryz.prog 132 #[.pointer (some ⟨d, 0, none⟩)] w fun x w' => x = .returned (.tuple #[.int .i64 (cMove st).1.1, .int .i64 (cMove st).1.2.1, .int .i64 (cMove st).1.2.2]) ∧ De 157 w' d G (cMove st).2 ∧ Bar [d] w w' := by
  unfold cMove
  dsimp only
  have KC := dnum_any w d G 1 st h hd
  obtain ⟨a, ha⟩ : ∃ a, decNum st 1 = a := ⟨_, rfl⟩
  rw [ha] at KC ⊢
  obtain ⟨c, hc⟩ : ∃ c, decNum a.2 1 = c := ⟨_, rfl⟩
  rw [hc]
  obtain ⟨f, hf⟩ : ∃ f, decNum c.2 8 = f := ⟨_, rfl⟩
  rw [hf]
  have HC := Kept.mk hc; have HF := Kept.mk hf
  clear h ha hc hf
  go_enter Tryz.func132, Tryz.ntmps132
  go_wp2_with fail
  refine KC.mono ?_
  rintro x w1 ⟨rfl, he, b⟩
  have B := Kept.mk b
  have KC2 := dnum_any w1 d G 1 a.2 he hd
  rw [HC.out] at KC2
  clear he b KC
  go_wp2_with fail
  refine KC2.mono ?_
  rintro x w2 ⟨rfl, he, b⟩
  replace B := Kept.mk (B.out.trans b (fun x hx => .inl hx))
  have KC := dnum_any w2 d G 8 c.2 he hd
  rw [HF.out] at KC
  clear he b KC2
  go_wp2_with fail
  refine KC.mono ?_
  rintro x w3 ⟨rfl, he, b⟩
  replace B := Kept.mk (B.out.trans b (fun x hx => .inl hx))
  have HE := Kept.mk he
  clear he b KC
  go_wp2
  refine bodyPost_ret (results_three rfl _ _) rfl ?_
  exact ⟨rfl, HE.out, B.out⟩
set_option maxRecDepth 100000 in
set_option maxHeartbeats 1000000 in
theorem cgettext_any {w : World} {d : Nat} {G : List Nat} {st : St} (h : De 157 w d G st) (hd : d ∉ G) : Calls Tryz.prog 133 #[.pointer (some ⟨d, 0, none⟩)] w fun x w' => x = .returned (.string (strOfNums (cText st).1)) ∧ De 157 w' d G (cText st).2 ∧ Bar [d] w w' := by
  have hb := h.bytes
  have HBY : Kept (∀ k, Bytes (iter (fun s => decNum s 1) k st).1 ∧ Bytes (iter (fun s => decNum s 1) k st).2.2) := ⟨fun k => ⟨iter_bytes1 k st hb, (byte_way.iter k st hb).1⟩⟩
  have HLE : Kept (∀ k, (iter (fun s => decNum s 1) k st).1.length = k) := ⟨fun k => iter_len _ k st⟩
  obtain ⟨w1, hmk, hblk, b1⟩ := make32 w
  obtain ⟨M, hM⟩ : ∃ M, w.heap.size = M := ⟨_, rfl⟩
  have DM : Kept (d ≠ M ∧ ∀ g ∈ G, g ≠ M) := ⟨by have := h.lt; omega, fun g hg => by have := h.1 g hg; omega⟩
  have HD : Kept (De 157 w1 d G (iter (fun s => decNum s 1) 0 st).2) := ⟨h.below b1⟩
  have B : Kept (Bar [d] w w1) := ⟨barOf b1 _⟩
  rw [hM] at hmk hblk
  have X : Kept (Blk w1 M 5 (arr .u8 ((iter (fun s => decNum s 1) 0 st).1 ++ List.replicate (32 - 0) 0))) := ⟨hblk⟩
  have MW : Kept (w.heap.size ≤ M) := ⟨by omega⟩
  have HM := Kept.mk hM
  clear h hb hblk b1
  go_enter Tryz.func133, Tryz.ntmps133
  go_wp2
  clear hmk
  go_loopw [8] (fun i wr => ∃ (k : Nat), k ≤ 32 ∧ i = .int .i64 k ∧ Kept (De 157 wr d G (iter (fun s => decNum s 1) k st).2) ∧ Kept (Blk wr M 5 (arr .u8 ((iter (fun s => decNum s 1) k st).1 ++ List.replicate (32 - k) 0))) ∧ Kept (Bar [d] w wr)) (fun i _ => 32 - (Go.RowKit.intOf i).toNat)
  case atStart => exact ⟨0, by omega, rfl, HD, X, B⟩
  case round =>
    clear HD X B
    obtain ⟨k, hk, rfl, HD, X, B⟩ := hrel
    by_cases hkn : k < 32
    · have hkn' : (k : Int) < 32 := by omega
      have hz := decNum_size0 _ (HBY.out k).2
      have KC := dnum_any wr d G 1 _ HD.out hd
      have hrow := row_next _ (decNum (iter (fun s => decNum s 1) k st).2 1).1 k (HLE.out k) hkn
      have hit : iter (fun s => decNum s 1) (k + 1) st = ((iter (fun s => decNum s 1) k st).1 ++ [(decNum (iter (fun s => decNum s 1) k st).2 1).1], (decNum (iter (fun s => decNum s 1) k st).2 1).2) := rfl
      have HIT := Kept.mk hit; have HRO := Kept.mk hrow
      obtain ⟨s2, hs2⟩ : ∃ s2, decNum (iter (fun s => decNum s 1) k st).2 1 = s2 := ⟨_, rfl⟩
      rw [hs2] at KC hz HIT HRO
      obtain ⟨z, s3⟩ := s2
      dsimp only at KC hz HIT HRO
      have KK := Kept.mk KC
      clear hs2 KC hrow hit
      go_wp2_with fail
      refine KK.out.mono ?_
      rintro x w2 ⟨rfl, he, b⟩
      replace X := Kept.mk (X.out.bar b (by simpa using fun h => DM.out.1 h.symm))
      replace B := Kept.mk (B.out.trans b (fun x hx => .inl hx))
      have hsz : ((arr .u8 ((iter (fun s => decNum s 1) k st).1 ++ List.replicate (32 - k) 0))).size = 32 := by
        rw [arr_size, List.length_append, HLE.out k, List.length_replicate]; omega
      have hc0 := X.out.cell k
      have hfz := X.out.frozen k
      have hc : w2.cell? ⟨M, k, none⟩ = some (.int .u8 (at_ ((iter (fun s => decNum s 1) k st).1 ++ List.replicate (32 - k) 0) k)) := X.out.at_ k (by rw [arr_size] at hsz; omega)
      have HE := Kept.mk he
      clear he b KK hc0 hsz HD
      generalize at_ ((iter (fun s => decNum s 1) k st).1 ++ List.replicate (32 - k) 0) k = y at *
      go_wp2
      have X2 : Blk (w2.setCell ⟨M, k, none⟩ (.int .u8 z)) M 5 (arr .u8 ((iter (fun s => decNum s 1) (k + 1) st).1 ++ List.replicate (32 - (k + 1)) 0)) := by
        rw [HIT.out]
        rw [← HRO.out, ← arr_set]
        exact X.out.set_ k _
      have hbm : Bar [M] w2 (w2.setCell ⟨M, k, none⟩ (.int .u8 z)) := (Bar.refl _ _).setCell (by simp) _
      have HD : Kept (De 157 (w2.setCell ⟨M, k, none⟩ (.int .u8 z)) d G (iter (fun s => decNum s 1) (k + 1) st).2) := ⟨by
        rw [HIT.out]
        exact HE.out.keep hbm (by simpa using DM.out.1) (fun g hg => by simpa using DM.out.2 g hg)⟩
      replace B := Kept.mk (B.out.setCell (p := ⟨M, k, none⟩) (.inr MW.out) (.int .u8 z))
      replace X := Kept.mk X2
      clear X2 hbm
      go_roundw
      case rel => exact ⟨k + 1, by omega, by go_num, HD, X, B⟩
      case measure => simp [Go.RowKit.intOf]; omega
    · have hkn' : ¬ (k : Int) < 32 := by omega
      obtain rfl : k = 32 := by omega
      have hr : Rd wr (some ⟨M, 0, none⟩) 32 (cText st).1 := Rd.blk (T := 5) (by
        have := X.out
        rwa [Nat.sub_self, List.replicate_zero, List.append_nil] at this) (HBY.out 32).1 (HLE.out 32)
      have hcv := conv_same (cap := 32) hr
      have HE : Kept (De 157 wr d G (cText st).2) := HD
      clear hr HD
      go_wp2
      go_ret
      exact ⟨rfl, HE.out, B.out⟩
end Go.Proofs.YtchcgoabogcabaaGreat.Req
