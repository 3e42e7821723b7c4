/-
  The law DiskReads, walked.
-/
import Derived.Test.YtgjmnefninmoiaaDiskTwice
namespace Go.Proofs.Ytgjmnefninmoiaa.Disk
open Go.RowKit Go.Proofs.Ytgjmnefninmoiaa.Sha

/-- one of the bytes that came in, whatever came behind -/
theorem byte_at {w : World} {A : Option Addr} {n : Nat} {xs : List Int} (r : Kept (Rd w A n xs)) (k : Nat) (hk : k < n) : ∃ b o, A = some ⟨b, o, none⟩ ∧ Kept (∀ wr, Kept (Below w.heap.size w wr) → wr.cell? ⟨b, o + k, none⟩ = some (.int .u8 (at_ xs k))) := by
  obtain ⟨b, o, h, hc⟩ := r.out.2.2.resolve_left (by omega)
  exact ⟨b, o, h, ⟨fun wr B => by rw [B.out.cell (World.block_lt_of_cell? _ _ (hc k hk))]; exact hc k hk⟩⟩
/-- a byte of a row that may be written -/
theorem mine_at {w : World} {A : Option Addr} {n B : Nat} {F : List Nat} {xs : List Int} (m : Mine w A n B F) (r : Rd w A n xs) (k : Nat) (hk : k < n) : ∃ g o, A = some ⟨g, o, none⟩ ∧ B ≤ g ∧ g ∉ F ∧ w.frozen? ⟨g, o + k, none⟩ = false ∧ w.cell? ⟨g, o + k, none⟩ = some (.int .u8 (at_ xs k)) := by
  obtain ⟨g, o, rfl, h1, h2, h3⟩ := m.resolve_left (by omega)
  obtain ⟨g', o', hA, hc⟩ := r.2.2.resolve_left (by omega)
  injection hA with hA
  injection hA with e1 e2
  subst e1 e2
  exact ⟨g, o, rfl, h1, h2, h3 k hk, hc k hk⟩
section
variable {Dk : World → List Nat → Nat → Nat → DS → Prop}
theorem DiskApi.stored (api : DiskApi Dk) {w w' : World} {F : List Nat} {d n : Nat} {s : DS} {p : Addr} {u : Value} (h : Kept (Dk w F d n s)) (hp : p.block ∉ F) (e : w' = w.setCell p u) : Kept (Dk w' F d n s) :=
  ⟨api.keep (G := [p.block]) h.out (e ▸ (Bar.refl _ _).setCell (by simp) _) (fun k hk hm => by simp at hm; subst hm; exact hp hk)⟩
set_option maxRecDepth 100000 in
set_option maxHeartbeats 1000000 in
theorem reads_walk (api : DiskApi Dk) (A : Option Addr) (n cap : Nat) (xs : List Int) (w : World) (hr : Rd w A n xs) : Calls Try.prog 7 #[.slice A n cap] w (Holds w) := by
  have RX := Kept.mk hr
  have l64 := Kept.mk text64_len
  clear hr
  go_enter Try.func7, Try.ntmps7
  go_wp2_with fail
  refine (first_any api w).mono ?_
  rintro e w1 ⟨rfl, b1⟩
  have B := Kept.mk b1
  clear b1
  by_cases hall : 1 ≤ n ∧ n ≤ 60
  · obtain ⟨hn1, hn60⟩ := hall
    have hn1' : (1 : Int) ≤ n := by omega
    have hn60' : (n : Int) ≤ 60 := by omega
    go_wp2_with fail
    refine (api.new w1 n hn1 (by omega)).mono ?_
    rintro e w2 ⟨d, F0, rfl, dk, fp⟩
    have D : Kept (Dk w2 F0 d n ⟨List.replicate n zeros64, List.replicate n zeros64, List.range 0, -1, false⟩) := ⟨dk⟩
    obtain ⟨B, L⟩ := step_fp B fp (none_least _)
    clear dk fp
    go_wp2
    go_loopw [6] (fun j wr => ∃ (k : Nat) (F : List Nat) (N : List (List Int)), k ≤ n ∧ j = .int .i64 k ∧ N.length = n ∧ Kept (∀ j, j < n → rowOf N j = if j < k then textOf 64 (at_ xs j) else zeros64) ∧ Kept (Dk wr F d n ⟨N, List.replicate n zeros64, List.range k, -1, false⟩) ∧ Kept (Below w.heap.size w wr) ∧ Kept (∀ g ∈ F, w.heap.size ≤ g)) (fun j _ => n - (intOf j).toNat)
    case atStart => exact ⟨0, F0, _, by omega, rfl, by simp, ⟨fun j hj => by rw [rowOf_replicate _ _ hj, if_neg (by omega)]⟩, D, B, L⟩
    case round =>
      clear D B L
      obtain ⟨k, F, N, hk, rfl, hN, HN, D, B, L⟩ := hrel
      by_cases hkn : k < n
      · have hkn' : (k : Int) < n := by omega
        obtain ⟨bb, oo, rfl, CX⟩ := byte_at RX k hkn
        obtain ⟨x, hx⟩ : ∃ x, at_ xs k = x := ⟨_, rfl⟩
        rw [hx] at CX
        have HX := Kept.mk hx
        clear hx
        have x0 := CX.out _ B
        go_wp2_with fail
        refine (text_any wr 0 0 64 x none 0 0).mono ?_
        rintro e w3 ⟨g, rfl, kg, hg, bg⟩
        obtain ⟨R, O⟩ := text_rd (F := F) 64 x kg hg (api.lts D.out)
        rw [show textLen 64 = 64 from rfl] at R O ⊢
        have hgF : g ∉ F := fun hm => by have := api.lts D.out g hm; omega
        have hgw : w.heap.size ≤ g := Nat.le_trans B.out.size hg
        replace D := api.below D bg
        replace B := step_below B bg
        have KG := Kept.mk kg
        clear kg hg bg x0
        go_wp2_with fail
        have hw := api.write (c := 64) k D.out R.out O.out (by omega) (by omega)
        rw [write_ok rfl rfl (by simp only; omega) (l64.out _)] at hw
        refine hw.mono ?_
        rintro e w4 ⟨rfl, F4, dk, fp⟩
        have D4 : Kept (Dk w4 F4 d n ⟨N.set k (textOf 64 x), List.replicate n zeros64, List.range (k + 1), -1, false⟩) := ⟨by rw [← ins_range k]; exact dk⟩
        have hg4 : g ∉ F4 := fun hm => Disj.step (F := F) (G := [g]) (fun j hj hj2 => by simp at hj2; subst hj2; exact hgF hj) fp (fun j hj => by simp at hj; subst hj; exact KG.out.lt) g hm (by simp)
        replace KG := Kept.mk (KG.out.bar fp.1 hgF)
        obtain ⟨B, L4⟩ := step_fp B fp L
        have x4 := KG.out.at_ 0 (by rw [text64_len]; omega)
        have z4 := KG.out.frozen 0
        have D5 := Kept.mk fun v => api.stored (p := ⟨g, 0, none⟩) (u := v) D4 hg4 rfl
        have HN2 : Kept (∀ j, j < n → rowOf (N.set k (textOf 64 x)) j = if j < k + 1 then textOf 64 (at_ xs j) else zeros64) := ⟨fun j hj => by
          rw [rowOf_set _ _ _ _ (by omega)]
          by_cases hjk : k = j
          · subst hjk; rw [if_pos rfl, if_pos (by omega), HX.out]
          · rw [if_neg hjk, HN.out j hj]
            by_cases hj2 : j < k
            · rw [if_pos hj2, if_pos (by omega)]
            · rw [if_neg hj2, if_neg (by omega)]⟩
        clear dk fp hw R O D D4 L HN
        generalize at_ (textOf 64 x) 0 = y at *
        go_wp2
        go_roundw
        case rel => exact ⟨k + 1, F4, N.set k (textOf 64 x), by omega, by go_num, by simpa using hN, HN2, D5.out _, ⟨B.out.setCell hgw _⟩, L4⟩
        case measure => simp [intOf]; omega
      · have hkn' : ¬ (k : Int) < n := by omega
        obtain rfl : k = n := by omega
        have HN3 : Kept (∀ j, j < k → rowOf N j = textOf 64 (at_ xs j)) := ⟨fun j hj => by rw [HN.out j hj, if_pos hj]⟩
        clear HN
        go_wp2
        go_loopw [8] (fun j wr => ∃ (i : Nat) (F : List Nat), i ≤ k ∧ j = .int .i64 i ∧ Kept (Dk wr F d k ⟨N, List.replicate k zeros64, List.range k, -1, false⟩) ∧ Kept (Below w.heap.size w wr) ∧ Kept (∀ g ∈ F, w.heap.size ≤ g)) (fun j _ => k - (intOf j).toNat)
        case atStart => exact ⟨0, F, by omega, rfl, D, B, L⟩
        case round =>
          clear D B L
          obtain ⟨i, F, hi, rfl, D, B, L⟩ := hrel
          by_cases hik : i < k
          · have hik' : (i : Int) < k := by omega
            obtain ⟨bb, oo, rfl, CX⟩ := byte_at RX i hik
            have hrow := HN3.out i hik
            generalize at_ xs i = x at *
            have hr := api.read i D.out
            rw [read_ok rfl (by simp only; omega), hrow] at hr
            go_wp2_with fail
            refine hr.mono ?_
            rintro e w3 ⟨A3, c3, F3, rfl, r, mi, -, -, dk, fp⟩
            have R : Kept (Rd w3 A3 64 (textOf 64 x)) := ⟨by have r2 := r; simp only [text64_len] at r2; exact r2⟩
            have MI : Kept (Mine w3 A3 64 wr.heap.size F3) := ⟨by have m2 := mi; simp only [text64_len] at m2; exact m2⟩
            rw [show ((0, textOf 64 x) : Int × List Int).2.length = 64 from text64_len x]
            replace D := Kept.mk dk
            have hwr := B.out.size
            obtain ⟨B, L⟩ := step_fp B fp L
            clear dk fp hr r mi
            obtain ⟨gA, oA, rfl, hgA, hgF, zA, xA⟩ := mine_at MI.out R.out 5 (by omega)
            have hlA := World.block_lt_of_cell? _ _ xA
            have x3 := CX.out _ B
            go_wp2_with fail
            refine (text_any w3 0 0 64 x none 0 0).mono ?_
            rintro e w4 ⟨g, rfl, kg, hg, bg⟩
            obtain ⟨R2, -⟩ := text_rd (F := []) 64 x kg hg (by simp)
            rw [show textLen 64 = 64 from rfl] at R2 ⊢
            replace R := Kept.mk (R.out.below bg)
            replace D := api.below D bg
            replace B := step_below B bg
            rw [← bg.frozen (p := ⟨gA, oA + 5, none⟩) hlA] at zA
            rw [← bg.cell (p := ⟨gA, oA + 5, none⟩) hlA] at xA
            clear kg hg bg x3 MI hlA
            go_wp2_with fail
            refine (bytes_same (some ⟨gA, oA, none⟩) (some ⟨g, 0, none⟩) 64 64 c3 64 (textOf 64 x) w4 R.out R2.out).mono ?_
            rintro e w5 ⟨rfl, rfl⟩
            clear R R2
            have D5 := Kept.mk fun v => api.stored (p := ⟨gA, oA + 5, none⟩) (u := v) D hgF rfl
            have B5 := Kept.mk fun v => B.out.setCell (p := ⟨gA, oA + 5, none⟩) (Nat.le_trans hwr hgA) v
            clear D B
            generalize at_ (textOf 64 x) 5 = y at *
            go_upto_region 23 with (fail)
            have D := D5.out (.int .u8 (bits .xor .u8 y 7))
            have B := Kept.mk (B5.out (.int .u8 (bits .xor .u8 y 7)))
            clear D5 B5 zA xA
            generalize w4.setCell ⟨gA, oA + 5, none⟩ (.int .u8 (bits .xor .u8 y 7)) = w6 at *
            have hr := api.read i D.out
            rw [read_ok rfl (by simp only; omega), hrow] at hr
            go_wp2_with fail
            refine hr.mono ?_
            rintro e w7 ⟨A7, c7, F7, rfl, r, -, -, -, dk, fp⟩
            have R : Kept (Rd w7 A7 64 (textOf 64 x)) := ⟨by have r2 := r; simp only [text64_len] at r2; exact r2⟩
            rw [show ((0, textOf 64 x) : Int × List Int).2.length = 64 from text64_len x]
            replace D := Kept.mk dk
            obtain ⟨B, L⟩ := step_fp B fp L
            clear dk fp hr r
            have x7 := CX.out _ B
            go_wp2_with fail
            refine (text_any w7 0 0 64 x none 0 0).mono ?_
            rintro e w8 ⟨g8, rfl, kg, hg, bg⟩
            obtain ⟨R2, -⟩ := text_rd (F := []) 64 x kg hg (by simp)
            rw [show textLen 64 = 64 from rfl] at R2 ⊢
            replace R := Kept.mk (R.out.below bg)
            replace D := api.below D bg
            replace B := step_below B bg
            clear kg hg bg x7
            go_wp2_with fail
            refine (bytes_same A7 (some ⟨g8, 0, none⟩) 64 64 c7 64 (textOf 64 x) w8 R.out R2.out).mono ?_
            rintro e w9 ⟨rfl, rfl⟩
            clear R R2
            go_wp2
            go_roundw
            case rel => exact ⟨i + 1, F7, by omega, by go_num, D, B, L⟩
            case measure => simp [intOf]; omega
          · have hik' : ¬ (i : Int) < k := by omega
            obtain rfl : i = k := by omega
            have hr := api.read i D.out
            rw [show readD ⟨N, List.replicate i zeros64, List.range i, -1, false⟩ i = (1, []) by unfold readD; rw [if_neg (by simp), if_pos (by unfold noSector; simp only; omega)]] at hr
            go_wp2_with fail
            refine hr.mono ?_
            rintro e w3 ⟨A3, c3, F3, rfl, -, -, -, -, dk, fp⟩
            replace D := Kept.mk dk
            obtain ⟨B, L⟩ := step_fp B fp L
            clear dk fp hr
            have hr := api.read (-1) D.out
            rw [show readD ⟨N, List.replicate i zeros64, List.range i, -1, false⟩ (-1) = (1, []) by unfold readD; rw [if_neg (by simp), if_pos (by unfold noSector; simp only; omega)]] at hr
            go_wp2_with fail
            refine hr.mono ?_
            rintro e w4 ⟨A4, c4, F4, rfl, -, -, -, -, dk, fp⟩
            replace D := Kept.mk dk
            obtain ⟨B, L⟩ := step_fp B fp L
            clear dk fp hr
            go_wp2_with fail
            refine (first_any api w4).mono ?_
            rintro e w5 ⟨rfl, b5⟩
            replace D := api.below D b5
            replace B := step_below B b5
            clear b5
            have hp := api.pending D.out
            simp only [List.length_range] at hp
            go_wp2_with fail
            refine hp.mono ?_
            rintro e w6 ⟨rfl, b6⟩
            replace B := step_below B b6
            clear hp b6
            go_wp2
            go_ret
            exact ⟨rfl, B.out⟩
  · by_cases h1 : n < 1
    · have h1' : (n : Int) < 1 := by omega
      clear hall
      go_wp2_with fail
      refine (first_any api w1).mono ?_
      rintro e w2 ⟨rfl, b2⟩
      replace B := step_below B b2
      go_wp2
      go_ret
      exact ⟨rfl, B.out⟩
    · have h1' : 60 < (n : Int) := by omega
      clear hall
      go_wp2_with fail
      refine (first_any api w1).mono ?_
      rintro e w2 ⟨rfl, b2⟩
      replace B := step_below B b2
      go_wp2
      go_ret
      exact ⟨rfl, B.out⟩
end
end Go.Proofs.Ytgjmnefninmoiaa.Disk
