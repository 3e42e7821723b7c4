/-
  (*Hash).Write: what is written stands behind what was.
-/
import Derived.Test.YtblhfbpokfegnaaShaWr
namespace Go.Proofs.Ytblhfbpokfegnaa.Sha
open Go.RowKit

def lenOf : Value → Nat | .slice _ l _ => l | _ => 0
def Wrel (hb t : Nat) (text xs : List Int) (w : World) (p c : Nat) (A : Option Addr) (r : List Int) (wr : World) : Prop :=
  p ≤ xs.length ∧ xs.length - p ≤ c ∧ (text ++ xs.take p).length % 64 = 0 ∧ Sl wr A (xs.length - p) (xs.drop p) hb ∧ r.length = 64 ∧ Bytes r ∧ Made wr t ∧
  Blk wr hb 70 (hcells t (st (text ++ xs.take p)).toL r (text.length + xs.length : Nat)) ∧ Bar [hb] w wr
theorem Sl.some_ {w : World} {A : Option Addr} {n : Nat} {xs : List Int} {hb : Nat} (h : Sl w A n xs hb) (hn : 0 < n) : ∃ b o, A = some ⟨b, o, none⟩ ∧ b ≠ hb ∧ ∀ i, i < n → w.cell? ⟨b, o + i, none⟩ = some (.int .u8 (at_ xs i)) := by
  rcases h.2.2 with h | h
  · omega
  · exact h

set_option maxRecDepth 100000 in
set_option maxHeartbeats 1000000 in
theorem write_0 (hb t : Nat) (text xs : List Int) (A : Option Addr) (n cap : Nat) (w : World) (hh : Hs w hb t text) (hs : Sl w A n xs hb) (hcap : n ≤ cap) (hmax : cap ≤ 9223372036854775807) (htot : text.length + n < 1152921504606846976) (hheld : text.length % 64 = 0) :
    Calls Try.prog 14 #[.pointer (some ⟨hb, 0, none⟩), .slice A n cap] w fun e w' => e = .returned (.tuple #[]) ∧ Hs w' hb t (text ++ xs) ∧ Bar [hb] w w' := by
  obtain ⟨hne, hm, hby, r, hr, hrb, he, hblk⟩ := hh
  obtain ⟨rfl, hbx, -⟩ := id hs
  have HBX := Kept.mk hbx
  clear hbx
  obtain ⟨L, hL⟩ : ∃ L, text.length = L := ⟨_, rfl⟩
  rw [hL] at htot
  have HL := Kept.mk hL
  have c1 : w.cell? ⟨hb, 73, none⟩ = some (.int .u64 (L : Nat)) := by rw [← hL]; exact (hblk.cell 73).trans (hc_size _ _ _ _ rfl hr)
  have z1 := hblk.frozen 73
  obtain ⟨X, hX⟩ : ∃ X, X = xs.length := ⟨_, rfl⟩
  have HX := Kept.mk hX
  have hheld' : ((L : Nat) : Int) % 64 = 0 := by rw [← hL]; omega
  have k0 : Kept (Wrel hb t text xs w 0 cap A r (w.setCell ⟨hb, 73, none⟩ (.int .u64 ((L : Int) + (X : Int))))) := by
    refine ⟨⟨Nat.zero_le _, by omega, by simpa using hheld, by simpa using hs.bar ((Bar.refl [hb] w).setCell (by simp) _) (by simp), hr, hrb, hm.far (by simpa using hne.symm) _, ?_, (Bar.refl [hb] w).setCell (by simp) _⟩⟩
    have := hblk.set_ 73 (.int .u64 ((L : Int) + (X : Int)))
    rw [hc_setn _ _ _ _ rfl hr] at this
    rw [hX, ← hL] at this ⊢
    simpa using this
  rw [← hX] at htot hcap ⊢
  clear hs hcap hblk he hr hrb hm hL hX hheld
  go_enter Try.func14, Try.ntmps14
  go_wp2
  rw [hheld']
  clear hheld'
  go_loopw [1] (fun v wr => ∃ (p c : Nat) (A : Option Addr) (r : List Int), v = .slice A (X - p) c ∧ Kept (c ≤ 9223372036854775807 ∧ Wrel hb t text xs w p c A r wr)) (fun v _ => lenOf v)
  case atStart => exact ⟨0, cap, A, r, rfl, ⟨hmax, k0.out⟩⟩
  case round =>
    clear k0
    obtain ⟨p, c, A', r', rfl, hk⟩ := hrel
    obtain ⟨hc, h⟩ := hk.out
    obtain ⟨hp, hpc, hmod, hsl, hr, hrb, hm, hblk, hbar⟩ := h
    rw [← HX.out] at hp hpc hsl
    obtain ⟨q, hq⟩ : ∃ q, X - p = q := ⟨_, rfl⟩
    rw [hq] at hpc hsl
    rw [hq]
    by_cases h64 : 64 ≤ q
    · obtain ⟨b, o, rfl, hbn, hcell⟩ := hsl.some_ (by omega)
      have hql : (xs.drop p).length = q := hsl.1
      have cm := mix_any hb t b o c (st (text ++ xs.take p)) (st_ok _) r' _ ((xs.drop p).take 64) wr (by rw [List.length_take]; omega) (hsl.2.1.take _) (by omega) hm hblk (fun i hi => by rw [at_take hi]; exact hcell i (by omega))
      rw [← more p hmod (by have := HX.out; omega)] at cm
      have hs2 := Kept.mk (hsl.drop 64 h64)
      rw [Option.map_some, show (⟨b, o, none⟩ : Addr).add 64 = ⟨b, o + 64, none⟩ by simp [Addr.add], List.drop_drop] at hs2
      have hnext : ∀ (w2 : World) (A2 : Option Addr), Sl w2 A2 (q - 64) (xs.drop (p + 64)) hb → Blk w2 hb 70 (hcells t (st (text ++ xs.take (p + 64))).toL r' (text.length + xs.length : Nat)) → Bar [hb] wr w2 → Kept (c - 64 ≤ 9223372036854775807 ∧ Wrel hb t text xs w (p + 64) (c - 64) A2 r' w2) := by
        intro w2 A2 s2 k2 b2
        have hX := HX.out
        refine ⟨by omega, by omega, by omega, ?_, by rw [show xs.length - (p + 64) = q - 64 by omega]; exact s2, hr, hrb, hm.bar b2 (by simpa using hne.symm), k2, hbar.trans b2 (by simp)⟩
        rw [List.length_append, List.length_take] at hmod ⊢
        omega
      have Cm := Kept.mk cm
      have Hnext := Kept.mk hnext
      have hq' : X - (p + 64) = q - 64 := by omega
      have Hq := Kept.mk hq'
      have Hsl := Kept.mk hsl
      clear hk hmod hsl hr hrb hm hblk hbar cm hnext hq hq' hql hcell hp
      by_cases hc64 : c = 64
      · subst hc64
        have hq0 : q - 64 = 0 := by omega
        go_wp2_with fail
        refine Cm.out.mono ?_
        rintro e w2 ⟨rfl, k2, b2⟩
        have rel := Hnext.out w2 (some ⟨b, o, none⟩) (by
          have := hs2.out.1
          rw [hq0] at this ⊢
          rw [List.eq_nil_of_length_eq_zero this]
          exact Sl.nil_) k2 b2
        replace rel := Kept.mk rel
        clear k2 b2
        go_wp2
        go_roundw
        case rel => exact ⟨p + 64, 64 - 64, _, r', by rw [Hq.out, hq0], rel.out⟩
        case measure => simp [lenOf]; omega
      · go_wp2_with fail
        refine Cm.out.mono ?_
        rintro e w2 ⟨rfl, k2, b2⟩
        have rel := Hnext.out w2 (some ⟨b, o + 64, none⟩) (hs2.out.bar b2 (by simp)) k2 b2
        replace rel := Kept.mk rel
        clear k2 b2
        go_wp2
        go_roundw
        case rel => exact ⟨p + 64, c - 64, _, r', by rw [Hq.out], rel.out⟩
        case measure => simp [lenOf]; omega
    · have hlf := left (r := r') p hmod (by rw [← HX.out]; omega) (by rw [← HX.out]; omega)
      have hql : (xs.drop p).length = q := hsl.1
      have hsrc := hsl.src q (by omega)
      rw [List.take_of_length_le (by omega)] at hsrc
      have hby2 : Bytes (xs.drop p) := hsl.2.1
      have fin : ∀ w2, Blk w2 hb 70 (splice (hcl t (st (text ++ xs.take p)).toL r' (text.length + xs.length : Nat)) (9 + 0) (ints .u8 (xs.drop p))).toArray → Bar [hb] wr w2 → Hs w2 hb t (text ++ xs) ∧ Bar [hb] w w2 := by
        intro w2 k2 b2
        rw [hcl_splice _ _ _ _ rfl hr 0 _ (by omega), ← hlf.2] at k2
        refine ⟨⟨hne, hm.bar b2 (by simpa using hne.symm), hby.append HBX.out, splice r' 0 (xs.drop p), by rw [splice_len (by omega), hr], splice_bytes hrb hby2, hlf.1, ?_⟩, hbar.trans b2 (by simp)⟩
        rw [List.length_append]; exact k2
      have Fin := Kept.mk fin
      have Hsrc := Kept.mk hsrc
      have Hblk := Kept.mk hblk
      have Hql := Kept.mk hql
      have Hr := Kept.mk hr
      clear hk hmod hsl hr hrb hm hblk hbar hlf hq hql hp hby2 hsrc fin
      go_upto_region 10 with (fail)
      apply wp_region_lit
      go_wp2_with ((with_reducible refine sel 58 ?_); refine wpList_copy_bar rfl (.tmp 56) (.tmp 57) 29 29 rfl 5 Try.underlying29 (by kernel_rfl) _ _ _ _ _ _ rfl rfl hb (9 + 0) _ 70 Hblk.out (ints .u8 (xs.drop p)) (by rw [ints_len, Hql.out]; exact (Nat.min_eq_left (by omega)).symm) (fun h0 => ⟨rfl, Hsrc.out h0⟩) (by rw [ints_len, Hql.out, hc_len _ _ _ _ rfl Hr.out]; omega) (ints_one _ _) ?_; intro w2 HG HB)
      have F := Kept.mk (Fin.out w2 HG.out HB)
      clear HG HB
      go_wp2
      go_end0
      exact ⟨rfl, F.out⟩

set_option maxRecDepth 100000 in
set_option maxHeartbeats 1000000 in
theorem write_1 (hb t : Nat) (text xs : List Int) (A : Option Addr) (n cap : Nat) (w : World) (hh : Hs w hb t text) (hs : Sl w A n xs hb) (hcap : n ≤ cap) (hmax : cap ≤ 9223372036854775807) (htot : text.length + n < 1152921504606846976) (hheld : 0 < text.length % 64) :
    Calls Try.prog 14 #[.pointer (some ⟨hb, 0, none⟩), .slice A n cap] w fun e w' => e = .returned (.tuple #[]) ∧ Hs w' hb t (text ++ xs) ∧ Bar [hb] w w' := by
  obtain ⟨hne, hm, hby, r, hr, hrb, he, hblk⟩ := hh
  obtain ⟨rfl, hbx, -⟩ := id hs
  have HBX := Kept.mk hbx
  clear hbx
  obtain ⟨L, hL⟩ : ∃ L, text.length = L := ⟨_, rfl⟩
  obtain ⟨h, hh⟩ : ∃ h, text.length % 64 = h := ⟨_, rfl⟩
  rw [hL] at htot
  rw [hh] at hheld
  have hh64 : h < 64 := by omega
  have hh64' : (h : Int) ≤ 64 := by omega
  have HL := Kept.mk hL
  have c1 : w.cell? ⟨hb, 73, none⟩ = some (.int .u64 (L : Nat)) := by rw [← hL]; exact (hblk.cell 73).trans (hc_size _ _ _ _ rfl hr)
  have z1 := hblk.frozen 73
  obtain ⟨X, hX⟩ : ∃ X, X = xs.length := ⟨_, rfl⟩
  have HX := Kept.mk hX
  have hheld' : ((L : Nat) : Int) % 64 = (h : Nat) := by rw [← hL]; omega
  -- behind the count's store
  have k0 := hblk.set_ 73 (.int .u64 ((L : Int) + (X : Int)))
  rw [hc_setn _ _ _ _ rfl hr] at k0
  have s0 := hs.bar ((Bar.refl [hb] w).setCell (p := ⟨hb, 73, none⟩) (by simp) (.int .u64 ((L : Int) + (X : Int)))) (by simp)
  have m0 : Made (w.setCell ⟨hb, 73, none⟩ (.int .u64 ((L : Int) + (X : Int)))) t := hm.far (by simpa using hne.symm) _
  have b0 := (Bar.refl [hb] w).setCell (p := ⟨hb, 73, none⟩) (by simp) (.int .u64 ((L : Int) + (X : Int)))
  obtain ⟨m, hm'⟩ : ∃ m, min X (64 - h) = m := ⟨_, rfl⟩
  have hsrc := s0.src m (by omega)
  have hlm : (xs.take m).length = m := by rw [List.length_take]; omega
  have fin1 : X < 64 - h → ∀ w2, Blk w2 hb 70 (splice (hcl t (st text).toL r ((L : Int) + (X : Int))) (9 + h) (ints .u8 (xs.take m))).toArray → Bar [hb] (w.setCell ⟨hb, 73, none⟩ (.int .u64 ((L : Int) + (X : Int)))) w2 → Hs w2 hb t (text ++ xs) ∧ Bar [hb] w w2 := by
    intro hlt w2 k2 b2
    have e1 : xs.take m = xs := List.take_of_length_le (by omega)
    rw [e1] at k2
    have hf := few (xs := xs) hr he (by omega)
    rw [hcl_splice _ _ _ _ rfl hr h _ (by omega), ← hf.2] at k2
    refine ⟨⟨hne, m0.bar b2 (by simpa using hne.symm), hby.append HBX.out, splice r h xs, by rw [splice_len (by omega), hr], splice_bytes hrb HBX.out, by rw [← hh]; exact hf.1, ?_⟩, b0.trans b2 (by simp)⟩
    rw [List.length_append, Int.natCast_add, ← hX, hL]; exact k2
  have fin2 : 64 - h ≤ X → ∀ w2, Blk w2 hb 70 (splice (hcl t (st text).toL r ((L : Int) + (X : Int))) (9 + h) (ints .u8 (xs.take m))).toArray → Bar [hb] (w.setCell ⟨hb, 73, none⟩ (.int .u64 ((L : Int) + (X : Int)))) w2 →
      Calls Try.prog 33 #[.pointer (some ⟨hb, 0, none⟩), .slice (some ⟨hb, 9, none⟩) 64 64] w2 fun e w3 => e = .returned (.tuple #[]) ∧ Kept (Sl w3 A X xs hb ∧ ∀ A2, Sl w3 A2 (X - m) (xs.drop m) hb → Kept (cap - m ≤ 9223372036854775807 ∧ Wrel hb t text xs w m (cap - m) A2 (splice r h (xs.take m)) w3)) := by
    intro hge w2 k2 b2
    have hm2 : m = 64 - h := by omega
    have hl2 : (splice r h (xs.take m)).length = 64 := by rw [splice_len (by omega), hr]
    have hb2 : Bytes (splice r h (xs.take m)) := splice_bytes hrb (HBX.out.take _)
    rw [hcl_splice _ _ _ _ rfl hr h _ (by omega)] at k2
    have mw := m0.bar b2 (by simpa using hne.symm)
    refine (mix_any hb t hb 9 64 (st text) (st_ok _) _ _ _ w2 hl2 hb2 (Nat.le_refl _) mw k2 (fun i hi => (k2.cell (9 + i)).trans (hc_rest _ _ _ _ rfl hl2 i hi))).mono ?_
    rintro e w3 ⟨rfl, k3, b3⟩
    have hf := full (xs := xs) hr he (by omega) (by omega)
    rw [hh, ← hm2] at hf
    rw [← hf, ← hL, ← Int.natCast_add, hX] at k3
    refine ⟨rfl, ⟨?_, fun A2 s2 => ⟨by omega, by omega, by omega, ?_, by rw [← hX]; exact s2, hl2, hb2, mw.bar b3 (by simpa using hne.symm), k3, (b0.trans b2 (by simp)).trans b3 (by simp)⟩⟩⟩
    · have := (s0.bar b2 (by simp)).bar b3 (by simp)
      rw [hX]; exact this
    · rw [List.length_append, hlm]; omega
  have Fin1 := Kept.mk fin1
  have Fin2 := Kept.mk fin2
  have Hsrc := Kept.mk hsrc
  have K0 := Kept.mk k0
  have Hlm := Kept.mk hlm
  have Hr := Kept.mk hr
  have S0 := Kept.mk s0
  clear hsrc fin1 fin2 k0 s0 m0 b0 hblk he hr hrb hm hL hlm hh
  by_cases hlt : X < 64 - h
  · rw [Nat.min_eq_left (by omega)] at hm'
    subst hm'
    rw [← hX] at hcap ⊢
    clear hX hs
    have hlt' : (h : Int) + (X : Int) < 64 := by omega
    go_enter Try.func14, Try.ntmps14
    go_wp2_with ((with_reducible refine sel 30 ?_); refine wpList_copy_bar rfl (.tmp 28) (.tmp 29) 29 29 rfl 5 Try.underlying29 (by kernel_rfl) _ _ _ _ _ _ rfl rfl hb (9 + h) _ 70 K0.out (ints .u8 (xs.take X)) (by rw [ints_len, Hlm.out]; exact (Nat.min_eq_left (by omega)).symm) (fun h0 => ⟨rfl, Hsrc.out h0⟩) (by rw [ints_len, Hlm.out, hc_len _ _ _ _ rfl Hr.out]; omega) (ints_one _ _) ?_; intro w2 HG HB; have F := Kept.mk (Fin1.out hlt w2 HG.out HB); clear HG HB; rw [ints_len, Hlm.out])
    go_wp2
    refine bodyPost_ret (results_none rfl _ _ _) rfl ?_
    exact ⟨rfl, F.out⟩
  · have hge : 64 - h ≤ X := by omega
    have em : min X (64 - h) = 64 - h := by omega
    rw [em] at hm'
    have hmX : m ≤ X := by omega
    have eM : (64 : Nat) - h = m := hm'
    have EM := Kept.mk eM
    rw [← hX] at hcap ⊢
    clear hX hs em hm'
    obtain ⟨g, hg⟩ : ∃ g, (h : Int) + (m : Int) = g := ⟨_, rfl⟩
    have hg64 : (h : Int) + (m : Int) = 64 := by omega
    by_cases hcm : cap = m
    · obtain rfl : cap = X := by omega
      obtain rfl : cap = m := hcm
      clear hg eM
      go_enter Try.func14, Try.ntmps14
      go_wp2_with ((with_reducible refine sel 30 ?_); refine wpList_copy_bar rfl (.tmp 28) (.tmp 29) 29 29 rfl 5 Try.underlying29 (by kernel_rfl) _ _ _ _ _ _ rfl rfl hb (9 + h) _ 70 K0.out (ints .u8 (xs.take cap)) (by rw [ints_len, Hlm.out]; exact by rw [EM.out]; exact (Nat.min_self _).symm) (fun h0 => ⟨rfl, Hsrc.out h0⟩) (by rw [ints_len, Hlm.out, hc_len _ _ _ _ rfl Hr.out]; omega) (ints_one _ _) ?_; intro w2 HG HB; have F := Kept.mk (Fin2.out (by rw [EM.out]; exact Nat.le_refl _) w2 HG.out HB); clear HG HB; rw [ints_len, Hlm.out])
      refine F.out.mono ?_
      rintro e w3 ⟨rfl, R⟩
      clear F
      have R0 := R.out.2 A (by rw [Nat.sub_self, List.drop_eq_nil_of_le (by have := HX.out; omega)]; exact Sl.nil_)
      rw [Nat.sub_self] at R0
      clear R K0 Fin1 Fin2 Hsrc Hlm S0 hge hlt
      go_wp2
      go_loopw [1] (fun v wr => ∃ (p c : Nat) (A : Option Addr) (r : List Int), v = .slice A (cap - p) c ∧ Kept (c ≤ 9223372036854775807 ∧ Wrel hb t text xs w p c A r wr)) (fun v _ => lenOf v)
      case atStart => exact ⟨cap, 0, A, splice r h (xs.take cap), by rw [Nat.sub_self], R0⟩
      case round =>
        clear R0
        obtain ⟨p, c, A', r', rfl, hk⟩ := hrel
        obtain ⟨hc, h⟩ := hk.out
        obtain ⟨hp, hpc, hmod, hsl, hr, hrb, hm, hblk, hbar⟩ := h
        rw [← HX.out] at hp hpc hsl
        obtain ⟨q, hq⟩ : ∃ q, cap - p = q := ⟨_, rfl⟩
        rw [hq] at hpc hsl
        rw [hq]
        by_cases h64 : 64 ≤ q
        · obtain ⟨b, o, rfl, hbn, hcell⟩ := hsl.some_ (by omega)
          have hql : (xs.drop p).length = q := hsl.1
          have cm := mix_any hb t b o c (st (text ++ xs.take p)) (st_ok _) r' _ ((xs.drop p).take 64) wr (by rw [List.length_take]; omega) (hsl.2.1.take _) (by omega) hm hblk (fun i hi => by rw [at_take hi]; exact hcell i (by omega))
          rw [← more p hmod (by have := HX.out; omega)] at cm
          have hs2 := Kept.mk (hsl.drop 64 h64)
          rw [Option.map_some, show (⟨b, o, none⟩ : Addr).add 64 = ⟨b, o + 64, none⟩ by simp [Addr.add], List.drop_drop] at hs2
          have hnext : ∀ (w2 : World) (A2 : Option Addr), Sl w2 A2 (q - 64) (xs.drop (p + 64)) hb → Blk w2 hb 70 (hcells t (st (text ++ xs.take (p + 64))).toL r' (text.length + xs.length : Nat)) → Bar [hb] wr w2 → Kept (c - 64 ≤ 9223372036854775807 ∧ Wrel hb t text xs w (p + 64) (c - 64) A2 r' w2) := by
            intro w2 A2 s2 k2 b2
            have hX := HX.out
            refine ⟨by omega, by omega, by omega, ?_, by rw [show xs.length - (p + 64) = q - 64 by omega]; exact s2, hr, hrb, hm.bar b2 (by simpa using hne.symm), k2, hbar.trans b2 (by simp)⟩
            rw [List.length_append, List.length_take] at hmod ⊢
            omega
          have Cm := Kept.mk cm
          have Hnext := Kept.mk hnext
          have hq' : cap - (p + 64) = q - 64 := by omega
          have Hq := Kept.mk hq'
          have Hsl := Kept.mk hsl
          clear hk hmod hsl hr hrb hm hblk hbar cm hnext hq hq' hql hcell hp
          by_cases hc64 : c = 64
          · subst hc64
            have hq0 : q - 64 = 0 := by omega
            go_wp2_with fail
            refine Cm.out.mono ?_
            rintro e w2 ⟨rfl, k2, b2⟩
            have rel := Hnext.out w2 (some ⟨b, o, none⟩) (by
              have := hs2.out.1
              rw [hq0] at this ⊢
              rw [List.eq_nil_of_length_eq_zero this]
              exact Sl.nil_) k2 b2
            replace rel := Kept.mk rel
            clear k2 b2
            go_wp2
            go_roundw
            case rel => exact ⟨p + 64, 64 - 64, _, r', by rw [Hq.out, hq0], rel.out⟩
            case measure => simp [lenOf]; omega
          · go_wp2_with fail
            refine Cm.out.mono ?_
            rintro e w2 ⟨rfl, k2, b2⟩
            have rel := Hnext.out w2 (some ⟨b, o + 64, none⟩) (hs2.out.bar b2 (by simp)) k2 b2
            replace rel := Kept.mk rel
            clear k2 b2
            go_wp2
            go_roundw
            case rel => exact ⟨p + 64, c - 64, _, r', by rw [Hq.out], rel.out⟩
            case measure => simp [lenOf]; omega
        · have hlf := left (r := r') p hmod (by rw [← HX.out]; omega) (by rw [← HX.out]; omega)
          have hql : (xs.drop p).length = q := hsl.1
          have hsrc := hsl.src q (by omega)
          rw [List.take_of_length_le (by omega)] at hsrc
          have hby2 : Bytes (xs.drop p) := hsl.2.1
          have fin : ∀ w2, Blk w2 hb 70 (splice (hcl t (st (text ++ xs.take p)).toL r' (text.length + xs.length : Nat)) (9 + 0) (ints .u8 (xs.drop p))).toArray → Bar [hb] wr w2 → Hs w2 hb t (text ++ xs) ∧ Bar [hb] w w2 := by
            intro w2 k2 b2
            rw [hcl_splice _ _ _ _ rfl hr 0 _ (by omega), ← hlf.2] at k2
            refine ⟨⟨hne, hm.bar b2 (by simpa using hne.symm), hby.append HBX.out, splice r' 0 (xs.drop p), by rw [splice_len (by omega), hr], splice_bytes hrb hby2, hlf.1, ?_⟩, hbar.trans b2 (by simp)⟩
            rw [List.length_append]; exact k2
          have Fin := Kept.mk fin
          have Hsrc := Kept.mk hsrc
          have Hblk := Kept.mk hblk
          have Hql := Kept.mk hql
          have Hr := Kept.mk hr
          clear hk hmod hsl hr hrb hm hblk hbar hlf hq hql hp hby2 hsrc fin
          go_upto_region 10 with (fail)
          apply wp_region_lit
          go_wp2_with ((with_reducible refine sel 58 ?_); refine wpList_copy_bar rfl (.tmp 56) (.tmp 57) 29 29 rfl 5 Try.underlying29 (by kernel_rfl) _ _ _ _ _ _ rfl rfl hb (9 + 0) _ 70 Hblk.out (ints .u8 (xs.drop p)) (by rw [ints_len, Hql.out]; exact (Nat.min_eq_left (by omega)).symm) (fun h0 => ⟨rfl, Hsrc.out h0⟩) (by rw [ints_len, Hql.out, hc_len _ _ _ _ rfl Hr.out]; omega) (ints_one _ _) ?_; intro w2 HG HB)
          have F := Kept.mk (Fin.out w2 HG.out HB)
          clear HG HB
          go_wp2
          go_end0
          exact ⟨rfl, F.out⟩
    · obtain ⟨b0, o0, rfl, hbn0, hcell0⟩ := S0.out.some_ (by have := HX.out; omega)
      clear hcell0
      have hge2 : (m : Int) ≤ (X : Int) := by omega
      clear hg eM
      go_enter Try.func14, Try.ntmps14
      go_wp2_with ((with_reducible refine sel 30 ?_); refine wpList_copy_bar rfl (.tmp 28) (.tmp 29) 29 29 rfl 5 Try.underlying29 (by kernel_rfl) _ _ _ _ _ _ rfl rfl hb (9 + h) _ 70 K0.out (ints .u8 (xs.take m)) (by rw [ints_len, Hlm.out]; exact by rw [EM.out]; exact (Nat.min_eq_right hmX).symm) (fun h0 => ⟨rfl, Hsrc.out h0⟩) (by rw [ints_len, Hlm.out, hc_len _ _ _ _ rfl Hr.out]; omega) (ints_one _ _) ?_; intro w2 HG HB; have F := Kept.mk (Fin2.out hge w2 HG.out HB); clear HG HB; rw [ints_len, Hlm.out])
      refine F.out.mono ?_
      rintro e w3 ⟨rfl, R⟩
      clear F
      have R0 := R.out.2 (some ⟨b0, o0 + m, none⟩) (by
        have := R.out.1.drop m hmX
        rwa [Option.map_some, show (⟨b0, o0, none⟩ : Addr).add m = ⟨b0, o0 + m, none⟩ by cases m <;> simp [Addr.add]] at this)
      clear R K0 Fin1 Fin2 Hsrc Hlm S0 hge hlt
      go_wp2
      go_loopw [1] (fun v wr => ∃ (p c : Nat) (A : Option Addr) (r : List Int), v = .slice A (X - p) c ∧ Kept (c ≤ 9223372036854775807 ∧ Wrel hb t text xs w p c A r wr)) (fun v _ => lenOf v)
      case atStart => exact ⟨m, cap - m, some ⟨b0, o0 + m, none⟩, splice r h (xs.take m), rfl, R0⟩
      case round =>
        clear R0
        obtain ⟨p, c, A', r', rfl, hk⟩ := hrel
        obtain ⟨hc, h⟩ := hk.out
        obtain ⟨hp, hpc, hmod, hsl, hr, hrb, hm, hblk, hbar⟩ := h
        rw [← HX.out] at hp hpc hsl
        obtain ⟨q, hq⟩ : ∃ q, X - p = q := ⟨_, rfl⟩
        rw [hq] at hpc hsl
        rw [hq]
        by_cases h64 : 64 ≤ q
        · obtain ⟨b, o, rfl, hbn, hcell⟩ := hsl.some_ (by omega)
          have hql : (xs.drop p).length = q := hsl.1
          have cm := mix_any hb t b o c (st (text ++ xs.take p)) (st_ok _) r' _ ((xs.drop p).take 64) wr (by rw [List.length_take]; omega) (hsl.2.1.take _) (by omega) hm hblk (fun i hi => by rw [at_take hi]; exact hcell i (by omega))
          rw [← more p hmod (by have := HX.out; omega)] at cm
          have hs2 := Kept.mk (hsl.drop 64 h64)
          rw [Option.map_some, show (⟨b, o, none⟩ : Addr).add 64 = ⟨b, o + 64, none⟩ by simp [Addr.add], List.drop_drop] at hs2
          have hnext : ∀ (w2 : World) (A2 : Option Addr), Sl w2 A2 (q - 64) (xs.drop (p + 64)) hb → Blk w2 hb 70 (hcells t (st (text ++ xs.take (p + 64))).toL r' (text.length + xs.length : Nat)) → Bar [hb] wr w2 → Kept (c - 64 ≤ 9223372036854775807 ∧ Wrel hb t text xs w (p + 64) (c - 64) A2 r' w2) := by
            intro w2 A2 s2 k2 b2
            have hX := HX.out
            refine ⟨by omega, by omega, by omega, ?_, by rw [show xs.length - (p + 64) = q - 64 by omega]; exact s2, hr, hrb, hm.bar b2 (by simpa using hne.symm), k2, hbar.trans b2 (by simp)⟩
            rw [List.length_append, List.length_take] at hmod ⊢
            omega
          have Cm := Kept.mk cm
          have Hnext := Kept.mk hnext
          have hq' : X - (p + 64) = q - 64 := by omega
          have Hq := Kept.mk hq'
          have Hsl := Kept.mk hsl
          clear hk hmod hsl hr hrb hm hblk hbar cm hnext hq hq' hql hcell hp
          by_cases hc64 : c = 64
          · subst hc64
            have hq0 : q - 64 = 0 := by omega
            go_wp2_with fail
            refine Cm.out.mono ?_
            rintro e w2 ⟨rfl, k2, b2⟩
            have rel := Hnext.out w2 (some ⟨b, o, none⟩) (by
              have := hs2.out.1
              rw [hq0] at this ⊢
              rw [List.eq_nil_of_length_eq_zero this]
              exact Sl.nil_) k2 b2
            replace rel := Kept.mk rel
            clear k2 b2
            go_wp2
            go_roundw
            case rel => exact ⟨p + 64, 64 - 64, _, r', by rw [Hq.out, hq0], rel.out⟩
            case measure => simp [lenOf]; omega
          · go_wp2_with fail
            refine Cm.out.mono ?_
            rintro e w2 ⟨rfl, k2, b2⟩
            have rel := Hnext.out w2 (some ⟨b, o + 64, none⟩) (hs2.out.bar b2 (by simp)) k2 b2
            replace rel := Kept.mk rel
            clear k2 b2
            go_wp2
            go_roundw
            case rel => exact ⟨p + 64, c - 64, _, r', by rw [Hq.out], rel.out⟩
            case measure => simp [lenOf]; omega
        · have hlf := left (r := r') p hmod (by rw [← HX.out]; omega) (by rw [← HX.out]; omega)
          have hql : (xs.drop p).length = q := hsl.1
          have hsrc := hsl.src q (by omega)
          rw [List.take_of_length_le (by omega)] at hsrc
          have hby2 : Bytes (xs.drop p) := hsl.2.1
          have fin : ∀ w2, Blk w2 hb 70 (splice (hcl t (st (text ++ xs.take p)).toL r' (text.length + xs.length : Nat)) (9 + 0) (ints .u8 (xs.drop p))).toArray → Bar [hb] wr w2 → Hs w2 hb t (text ++ xs) ∧ Bar [hb] w w2 := by
            intro w2 k2 b2
            rw [hcl_splice _ _ _ _ rfl hr 0 _ (by omega), ← hlf.2] at k2
            refine ⟨⟨hne, hm.bar b2 (by simpa using hne.symm), hby.append HBX.out, splice r' 0 (xs.drop p), by rw [splice_len (by omega), hr], splice_bytes hrb hby2, hlf.1, ?_⟩, hbar.trans b2 (by simp)⟩
            rw [List.length_append]; exact k2
          have Fin := Kept.mk fin
          have Hsrc := Kept.mk hsrc
          have Hblk := Kept.mk hblk
          have Hql := Kept.mk hql
          have Hr := Kept.mk hr
          clear hk hmod hsl hr hrb hm hblk hbar hlf hq hql hp hby2 hsrc fin
          go_upto_region 10 with (fail)
          apply wp_region_lit
          go_wp2_with ((with_reducible refine sel 58 ?_); refine wpList_copy_bar rfl (.tmp 56) (.tmp 57) 29 29 rfl 5 Try.underlying29 (by kernel_rfl) _ _ _ _ _ _ rfl rfl hb (9 + 0) _ 70 Hblk.out (ints .u8 (xs.drop p)) (by rw [ints_len, Hql.out]; exact (Nat.min_eq_left (by omega)).symm) (fun h0 => ⟨rfl, Hsrc.out h0⟩) (by rw [ints_len, Hql.out, hc_len _ _ _ _ rfl Hr.out]; omega) (ints_one _ _) ?_; intro w2 HG HB)
          have F := Kept.mk (Fin.out w2 HG.out HB)
          clear HG HB
          go_wp2
          go_end0
          exact ⟨rfl, F.out⟩

theorem write_any (hb t : Nat) (text xs : List Int) (A : Option Addr) (n cap : Nat) (w : World) (hh : Hs w hb t text) (hs : Sl w A n xs hb) (hcap : n ≤ cap) (hmax : cap ≤ 9223372036854775807) (htot : text.length + n < 1152921504606846976) :
    Calls Try.prog 14 #[.pointer (some ⟨hb, 0, none⟩), .slice A n cap] w fun e w' => e = .returned (.tuple #[]) ∧ Hs w' hb t (text ++ xs) ∧ Bar [hb] w w' := by
  by_cases h : text.length % 64 = 0
  · exact write_0 hb t text xs A n cap w hh hs hcap hmax htot h
  · exact write_1 hb t text xs A n cap w hh hs hcap hmax htot (by omega)
end Go.Proofs.Ytblhfbpokfegnaa.Sha
