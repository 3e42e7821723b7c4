/-
  The law DiskTwice, walked.
-/
import Derived.Test.YtgjmnefninmoiaaDiskApi
import Derived.Test.YtgjmnefninmoiaaDiskText
namespace Go.Proofs.Ytgjmnefninmoiaa.Disk
open Go.RowKit Go.Proofs.Ytgjmnefninmoiaa.Sha

theorem write_ok {s : DS} {i : Nat} {xs : List Int} (hd : s.down = false) (hf : s.fuse = -1) (hi : i < s.now.length) (hx : xs.length = 64) : writeD s i xs = (0, putD s i xs) := by
  unfold writeD
  rw [if_neg (by simp [hd]), if_neg (by unfold noSector; omega), if_neg (by simp [hx])]
  have e : burnD s = (false, s) := by unfold burnD; rw [if_neg (by omega), if_neg (by omega)]
  rw [e]
  rfl
theorem sync_ok {s : DS} (hd : s.down = false) (hf : s.fuse = -1) : syncD s = (0, keptD s) := by
  unfold syncD
  rw [if_neg (by simp [hd])]
  have e : burnD s = (false, s) := by unfold burnD; rw [if_neg (by omega), if_neg (by omega)]
  rw [e]
  rfl
theorem read_ok {s : DS} {i : Nat} (hd : s.down = false) (hi : i < s.now.length) : readD s i = (0, rowOf s.now i) := by
  unfold readD
  rw [if_neg (by simp [hd]), if_neg (by unfold noSector; omega)]
  rfl
theorem rb_new (w : World) (bs : List Bool) : Rb (w.alloc (.cells (bs.map Value.bool).toArray 4)) (some ⟨w.heap.size, 0, none⟩) bs.length bs :=
  ⟨rfl, .inr ⟨w.heap.size, 0, rfl, fun i hi => by
    rw [Nat.zero_add, (Blk.new w 4 (bs.map Value.bool).toArray).cell i]
    simp [hi]⟩⟩
section
variable {Dk : World → List Nat → Nat → Nat → DS → Prop}
/-- what text made may be written -/
theorem text_rd {w w' : World} {g : Nat} {F : List Nat} (n b : Int) (k : Blk w' g 5 (arr .u8 (textOf n b))) (hg : w.heap.size ≤ g) (hF : ∀ j ∈ F, j < w.heap.size) : Kept (Rd w' (some ⟨g, 0, none⟩) (textLen n) (textOf n b)) ∧ Kept (Off (some ⟨g, 0, none⟩) (textLen n) F) :=
  ⟨⟨Rd.blk k (textOf_bytes _ _) (textOf_len _ _)⟩, ⟨new_off fun j hj => by have := hF j hj; omega⟩⟩
theorem text64_len (b : Int) : (textOf 64 b).length = 64 := textOf_len 64 b

set_option maxRecDepth 100000 in
set_option maxHeartbeats 1000000 in
theorem twice_walk (api : DiskApi Dk) (a b c : Int) (keep : Bool) (w : World) : Calls Try.prog 6 #[.int .u8 a, .int .u8 b, .int .u8 c, .bool keep] w (Holds w) := by
  have l64 := Kept.mk text64_len
  go_enter Try.func6, Try.ntmps6
  go_wp2_with fail
  refine (first_any api w).mono ?_
  rintro e w1 ⟨rfl, b1⟩
  have B := Kept.mk b1
  clear b1
  go_wp2_with fail
  refine (api.new w1 1 (by omega) (by omega)).mono ?_
  rintro e w2 ⟨d, F, rfl, dk, fp⟩
  have D : Kept (Dk w2 F d 1 ⟨[zeros64], [zeros64], [], -1, false⟩) := ⟨dk⟩
  obtain ⟨B, L⟩ := step_fp B fp (none_least _)
  clear dk fp
  go_wp2_with fail
  refine (text_any w2 0 0 64 a none 0 0).mono ?_
  rintro e w3 ⟨g, rfl, kg, hg, bg⟩
  obtain ⟨R, O⟩ := text_rd (F := F) 64 a kg hg (api.lts D.out)
  rw [show textLen 64 = 64 from rfl] at R O ⊢
  replace D := api.below D bg
  replace B := step_below B bg
  clear kg hg bg
  go_wp2_with fail
  refine (api.write 0 D.out R.out O.out (by omega) (by omega)).mono ?_
  rw [show (0 : Int) = ((0 : Nat) : Int) from rfl, write_ok rfl rfl (by simp) (l64.out _)]
  rintro e w4 ⟨rfl, F, dk, fp⟩
  replace D := Kept.mk dk
  obtain ⟨B, L⟩ := step_fp B fp L
  clear dk fp R O
  replace D : Kept (Dk w4 F d 1 ⟨[textOf 64 a], [zeros64], [0], -1, false⟩) := D
  go_wp2_with fail
  refine (api.sync D.out).mono ?_
  rw [sync_ok rfl rfl]
  rintro e w5 ⟨rfl, F, dk, fp⟩
  replace D : Kept (Dk w5 F d 1 ⟨[textOf 64 a], [textOf 64 a], [], -1, false⟩) := ⟨dk⟩
  obtain ⟨B, L⟩ := step_fp B fp L
  clear dk fp
  go_wp2_with fail
  refine (text_any w5 0 0 64 b none 0 0).mono ?_
  rintro e w6 ⟨g, rfl, kg, hg, bg⟩
  obtain ⟨R, O⟩ := text_rd (F := F) 64 b kg hg (api.lts D.out)
  rw [show textLen 64 = 64 from rfl] at R O ⊢
  replace D := api.below D bg
  replace B := step_below B bg
  clear kg hg bg
  go_wp2_with fail
  refine (api.write 0 D.out R.out O.out (by omega) (by omega)).mono ?_
  rw [show (0 : Int) = ((0 : Nat) : Int) from rfl, write_ok rfl rfl (by simp) (l64.out _)]
  rintro e w7 ⟨rfl, F, dk, fp⟩
  replace D := Kept.mk dk
  obtain ⟨B, L⟩ := step_fp B fp L
  clear dk fp R O
  replace D : Kept (Dk w7 F d 1 ⟨[textOf 64 b], [textOf 64 a], [0], -1, false⟩) := D
  go_wp2_with fail
  refine (text_any w7 0 0 64 c none 0 0).mono ?_
  rintro e w8 ⟨g, rfl, kg, hg, bg⟩
  obtain ⟨R, O⟩ := text_rd (F := F) 64 c kg hg (api.lts D.out)
  rw [show textLen 64 = 64 from rfl] at R O ⊢
  replace D := api.below D bg
  replace B := step_below B bg
  clear kg hg bg
  go_wp2_with fail
  refine (api.write 0 D.out R.out O.out (by omega) (by omega)).mono ?_
  rw [show (0 : Int) = ((0 : Nat) : Int) from rfl, write_ok rfl rfl (by simp) (l64.out _)]
  rintro e w9 ⟨rfl, F, dk, fp⟩
  replace D := Kept.mk dk
  obtain ⟨B, L⟩ := step_fp B fp L
  clear dk fp R O
  replace D : Kept (Dk w9 F d 1 ⟨[textOf 64 c], [textOf 64 a], [0], -1, false⟩) := D
  go_wp2_with fail
  have hr := api.read 0 D.out
  rw [show (0 : Int) = ((0 : Nat) : Int) from rfl, read_ok rfl (by simp)] at hr
  refine hr.mono ?_
  rintro e w10 ⟨A, ca, F, rfl, r, -, -, -, dk, fp⟩
  replace D := Kept.mk dk
  obtain ⟨B, L⟩ := step_fp B fp L
  have R : Kept (Rd w10 A 64 (textOf 64 c)) := ⟨by have r2 := r; simp only [rowOf, List.getD_cons_zero, text64_len] at r2; exact r2⟩
  rw [show (rowOf [textOf 64 c] 0).length = 64 from text64_len c]
  clear dk fp r hr
  go_wp2_with fail
  refine (api.pending D.out).mono ?_
  rintro e w11 ⟨rfl, bp⟩
  replace R := Kept.mk (R.out.below bp)
  replace D := api.below D bp
  replace B := step_below B bp
  clear bp
  go_wp2_with fail
  refine (text_any w11 0 0 64 c none 0 0).mono ?_
  rintro e w13 ⟨g, rfl, kg, hg, bg⟩
  obtain ⟨R2, -⟩ := text_rd (F := F) 64 c kg hg (api.lts D.out)
  rw [show textLen 64 = 64 from rfl] at R2 ⊢
  replace R := Kept.mk (R.out.below bg)
  replace D := api.below D bg
  replace B := step_below B bg
  clear kg hg bg
  go_wp2_with fail
  refine (bytes_same A (some ⟨g, 0, none⟩) 64 64 ca 64 (textOf 64 c) w13 R.out R2.out).mono ?_
  rintro e wx ⟨rfl, rfl⟩
  clear R R2
  go_wp2_with fail
  have rb := rb_new w13 [keep, true, true]
  have ob := Kept.mk (new_off (n := 3) (o := 0) (api.lts D.out))
  have D2 := api.below D ((Below.refl w13.heap.size w13).alloc (Nat.le_refl _) (.cells (([keep, true, true] : List Bool).map Value.bool).toArray 4))
  have B2 := step_below B ((Below.refl w13.heap.size w13).alloc (Nat.le_refl _) (.cells (([keep, true, true] : List Bool).map Value.bool).toArray 4))
  refine (api.crash D2.out rb ob.out (by simp) (by simp)).mono ?_
  rintro e w14 ⟨rfl, F, dk, fp⟩
  obtain ⟨B, L⟩ := step_fp B2 fp L
  cases keep with
  | true =>
    replace D : Kept (Dk w14 F d 1 ⟨[textOf 64 c], [textOf 64 c], [], -1, false⟩) := ⟨dk⟩
    clear dk fp rb ob D2 B2
    go_wp2_with fail
    have hr := api.read 0 D.out
    rw [show (0 : Int) = ((0 : Nat) : Int) from rfl, read_ok rfl (by simp)] at hr
    refine hr.mono ?_
    rintro e w15 ⟨A, ca, F, rfl, r, -, -, -, dk, fp⟩
    replace D := Kept.mk dk
    obtain ⟨B, L⟩ := step_fp B fp L
    have R : Kept (Rd w15 A 64 (textOf 64 c)) := ⟨by have r2 := r; simp only [rowOf, List.getD_cons_zero, text64_len] at r2; exact r2⟩
    rw [show (rowOf [textOf 64 c] 0).length = 64 from text64_len c]
    clear dk fp r hr
    go_wp2_with fail
    refine (first_any api w15).mono ?_
    rintro e w16 ⟨rfl, bf⟩
    replace R := Kept.mk (R.out.below bf)
    replace D := api.below D bf
    replace B := step_below B bf
    clear bf
    go_wp2_with fail
    refine (text_any w16 0 0 64 c none 0 0).mono ?_
    rintro e w18 ⟨g, rfl, kg, hg, bg⟩
    obtain ⟨R2, -⟩ := text_rd (F := F) 64 c kg hg (api.lts D.out)
    rw [show textLen 64 = 64 from rfl] at R2 ⊢
    replace R := Kept.mk (R.out.below bg)
    replace D := api.below D bg
    replace B := step_below B bg
    clear kg hg bg
    go_wp2_with fail
    refine (bytes_same A (some ⟨g, 0, none⟩) 64 64 ca 64 (textOf 64 c) w18 R.out R2.out).mono ?_
    rintro e wx ⟨rfl, rfl⟩
    clear R R2
    obtain ⟨w19, hmk, k19, b19⟩ := make_blk w18 63 (by omega)
    have R63 := Kept.mk (Rd.blk k19 (xs := List.replicate 63 0) (fun x hx => by have := List.eq_of_mem_replicate hx; omega) (List.length_replicate ..))
    have O63 := Kept.mk (new_off (n := 63) (o := 0) (api.lts D.out))
    replace D := api.below D b19
    replace B := step_below B b19
    clear k19 b19
    replace hmk : (Instr.makeSlice 36 (.int .i64 63) (.int .i64 63)).run Try.prog w18 = .ok (.slice (some ⟨w18.heap.size, 0, none⟩) 63 63) w19 := hmk
    go_wp2_with fail
    refine (api.write 0 D.out R63.out O63.out (by omega) (by omega)).mono ?_
    rw [show writeD ⟨[textOf 64 c], [textOf 64 c], [], -1, false⟩ 0 (List.replicate 63 0) = (2, ⟨[textOf 64 c], [textOf 64 c], [], -1, false⟩) from rfl]
    rintro e w20 ⟨rfl, F, dk, fp⟩
    replace D := Kept.mk dk
    obtain ⟨B, L⟩ := step_fp B fp L
    clear dk fp hmk R63 O63
    obtain ⟨w21, hmk, r21, -, b21⟩ := mk64 w20
    have O64 := Kept.mk (new_off (n := 64) (o := 0) (api.lts D.out))
    replace D := api.below D b21
    replace B := step_below B b21
    have R64 := Kept.mk r21
    clear r21 b21
    go_wp2_with fail
    refine (api.write 1 D.out R64.out O64.out (by omega) (by omega)).mono ?_
    rw [show writeD ⟨[textOf 64 c], [textOf 64 c], [], -1, false⟩ 1 zeros64 = (1, ⟨[textOf 64 c], [textOf 64 c], [], -1, false⟩) from rfl]
    rintro e w22 ⟨rfl, F, dk, fp⟩
    obtain ⟨B, L⟩ := step_fp B fp L
    clear dk fp hmk R64 O64
    go_wp2
    go_ret
    exact ⟨rfl, B.out⟩
  | false =>
    replace D : Kept (Dk w14 F d 1 ⟨[textOf 64 a], [textOf 64 a], [], -1, false⟩) := ⟨dk⟩
    clear dk fp rb ob D2 B2
    go_wp2_with fail
    have hr := api.read 0 D.out
    rw [show (0 : Int) = ((0 : Nat) : Int) from rfl, read_ok rfl (by simp)] at hr
    refine hr.mono ?_
    rintro e w15 ⟨A, ca, F, rfl, r, -, -, -, dk, fp⟩
    replace D := Kept.mk dk
    obtain ⟨B, L⟩ := step_fp B fp L
    have R : Kept (Rd w15 A 64 (textOf 64 a)) := ⟨by have r2 := r; simp only [rowOf, List.getD_cons_zero, text64_len] at r2; exact r2⟩
    rw [show (rowOf [textOf 64 a] 0).length = 64 from text64_len a]
    clear dk fp r hr
    go_wp2_with fail
    refine (first_any api w15).mono ?_
    rintro e w16 ⟨rfl, bf⟩
    replace R := Kept.mk (R.out.below bf)
    replace D := api.below D bf
    replace B := step_below B bf
    clear bf
    go_wp2_with fail
    refine (text_any w16 0 0 64 a none 0 0).mono ?_
    rintro e w18 ⟨g, rfl, kg, hg, bg⟩
    obtain ⟨R2, -⟩ := text_rd (F := F) 64 a kg hg (api.lts D.out)
    rw [show textLen 64 = 64 from rfl] at R2 ⊢
    replace R := Kept.mk (R.out.below bg)
    replace D := api.below D bg
    replace B := step_below B bg
    clear kg hg bg
    go_wp2_with fail
    refine (bytes_same A (some ⟨g, 0, none⟩) 64 64 ca 64 (textOf 64 a) w18 R.out R2.out).mono ?_
    rintro e wx ⟨rfl, rfl⟩
    clear R R2
    obtain ⟨w19, hmk, k19, b19⟩ := make_blk w18 63 (by omega)
    have R63 := Kept.mk (Rd.blk k19 (xs := List.replicate 63 0) (fun x hx => by have := List.eq_of_mem_replicate hx; omega) (List.length_replicate ..))
    have O63 := Kept.mk (new_off (n := 63) (o := 0) (api.lts D.out))
    replace D := api.below D b19
    replace B := step_below B b19
    clear k19 b19
    replace hmk : (Instr.makeSlice 36 (.int .i64 63) (.int .i64 63)).run Try.prog w18 = .ok (.slice (some ⟨w18.heap.size, 0, none⟩) 63 63) w19 := hmk
    go_wp2_with fail
    refine (api.write 0 D.out R63.out O63.out (by omega) (by omega)).mono ?_
    rw [show writeD ⟨[textOf 64 a], [textOf 64 a], [], -1, false⟩ 0 (List.replicate 63 0) = (2, ⟨[textOf 64 a], [textOf 64 a], [], -1, false⟩) from rfl]
    rintro e w20 ⟨rfl, F, dk, fp⟩
    replace D := Kept.mk dk
    obtain ⟨B, L⟩ := step_fp B fp L
    clear dk fp hmk R63 O63
    obtain ⟨w21, hmk, r21, -, b21⟩ := mk64 w20
    have O64 := Kept.mk (new_off (n := 64) (o := 0) (api.lts D.out))
    replace D := api.below D b21
    replace B := step_below B b21
    have R64 := Kept.mk r21
    clear r21 b21
    go_wp2_with fail
    refine (api.write 1 D.out R64.out O64.out (by omega) (by omega)).mono ?_
    rw [show writeD ⟨[textOf 64 a], [textOf 64 a], [], -1, false⟩ 1 zeros64 = (1, ⟨[textOf 64 a], [textOf 64 a], [], -1, false⟩) from rfl]
    rintro e w22 ⟨rfl, F, dk, fp⟩
    obtain ⟨B, L⟩ := step_fp B fp L
    clear dk fp hmk R64 O64
    go_wp2
    go_ret
    exact ⟨rfl, B.out⟩
end
end Go.Proofs.Ytgjmnefninmoiaa.Disk
