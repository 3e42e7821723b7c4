/-
  Parts laid together: ShaWrite ShaSum ShaSum2 ShaCmp ShaUse FrameSum Clone WireDoneEnc WireSize WireInto WireFail WirePut WireNum WireNewEnc FrameHead MakeB FrameLay Rows2 Concat FrameCPut Write8.
-/
import Derived.Test.YtjlhnhkjgcbnnaaGreatPart2
import Derived.Laws.BytesArg
import Derived.Lib.SlBytesConst
import Derived.DataShut
import Derived.Laws.OwnMore
import Derived.Lib.SmallJoins
import Derived.Test.YtjlhnhkjgcbnnaaGreatPart1
import Derived.Lib.SliceRun
import Derived.Deep.RegionHeld3
import Derived.Deep.AppendLies
import Derived.Lib.QuietBelow
import Derived.StillTailTactics
import Derived.Lib.AppendZeros

/-
  (*Hash).Write: what is written stands behind what was.
-/

namespace Go.Proofs.YtjlhnhkjgcbnnaaGreat.Sha
open Go.RowKit

def Wrel (hb t : Nat) (text xs : List Int) (w : World) (p c : Nat) (A : Option Addr) (r : List Int) (wr : World) : Prop :=
  p ≤ xs.length ∧ xs.length - p ≤ c ∧ (text ++ xs.take p).length % 64 = 0 ∧ Sl wr A (xs.length - p) (xs.drop p) hb ∧ r.length = 64 ∧ Bytes r ∧ Made wr t ∧
  Blk wr hb 176 (hcells t (st (text ++ xs.take p)).toL r (text.length + xs.length : Nat)) ∧ Bar [hb] w wr
theorem Sl.some_ {w : World} {A : Option Addr} {n : Nat} {xs : List Int} {hb : Nat} (h : Sl w A n xs hb) (hn : 0 < n) : ∃ b o, A = some ⟨b, o, none⟩ ∧ b ≠ hb ∧ ∀ i, i < n → w.cell? ⟨b, o + i, none⟩ = some (.int .u8 (at_ xs i)) := by
  rcases h.2.2 with h | h
  · omega
  · exact h

set_option maxRecDepth 100000 in
set_option maxHeartbeats 1000000 in
theorem write_0 (hb t : Nat) (text xs : List Int) (A : Option Addr) (n cap : Nat) (w : World) (hh : Hs w hb t text) (hs : Sl w A n xs hb) (hcap : n ≤ cap) (hmax : cap ≤ 9223372036854775807) (htot : text.length + n < 1152921504606846976) (hheld : text.length % 64 = 0) :
    Calls Tryz.prog 96 #[.pointer (some ⟨hb, 0, none⟩), .slice A n cap] w fun e w' => e = .returned (.tuple #[]) ∧ Hs w' hb t (text ++ xs) ∧ Bar [hb] w w' := by
  obtain ⟨hne, hm, hby, r, hr, hrb, he, hblk⟩ := hh
  obtain ⟨rfl, hbx, -⟩ := id hs
  have HBX := Kept.mk hbx
  clear hbx
  obtain ⟨L, hL⟩ : ∃ L, text.length = L := ⟨_, rfl⟩
  rw [hL] at htot
  have HL := Kept.mk hL
  have c1 : w.cell? ⟨hb, 73, none⟩ = some (.int .u64 (L : Nat)) := by rw [← hL]; exact (hblk.cell 73).trans (hc_size _ _ _ _ rfl hr)
  have z1 := hblk.frozen 73
  obtain ⟨X, hX⟩ : ∃ X, X = xs.length := ⟨_, rfl⟩
  have HX := Kept.mk hX
  have hheld' : ((L : Nat) : Int) % 64 = 0 := by rw [← hL]; omega
  have k0 : Kept (Wrel hb t text xs w 0 cap A r (w.setCell ⟨hb, 73, none⟩ (.int .u64 ((L : Int) + (X : Int))))) := by
    refine ⟨⟨Nat.zero_le _, by omega, by simpa using hheld, by simpa using hs.bar ((Bar.refl [hb] w).setCell (by simp) _) (by simp), hr, hrb, hm.far (by simpa using hne.symm) _, ?_, (Bar.refl [hb] w).setCell (by simp) _⟩⟩
    have := hblk.set_ 73 (.int .u64 ((L : Int) + (X : Int)))
    rw [hc_setn _ _ _ _ rfl hr] at this
    rw [hX, ← hL] at this ⊢
    simpa using this
  rw [← hX] at htot hcap ⊢
  clear hs hcap hblk he hr hrb hm hL hX hheld
  go_enter Tryz.func96, Tryz.ntmps96
  go_wp2
  rw [hheld']
  clear hheld'
  go_loopw [1] (fun v wr => ∃ (p c : Nat) (A : Option Addr) (r : List Int), v = .slice A (X - p) c ∧ Kept (c ≤ 9223372036854775807 ∧ Wrel hb t text xs w p c A r wr)) (fun v _ => lenOf v)
  case atStart => exact ⟨0, cap, A, r, rfl, ⟨hmax, k0.out⟩⟩
  case round =>
    clear k0
    obtain ⟨p, c, A', r', rfl, hk⟩ := hrel
    obtain ⟨hc, h⟩ := hk.out
    obtain ⟨hp, hpc, hmod, hsl, hr, hrb, hm, hblk, hbar⟩ := h
    rw [← HX.out] at hp hpc hsl
    obtain ⟨q, hq⟩ : ∃ q, X - p = q := ⟨_, rfl⟩
    rw [hq] at hpc hsl
    rw [hq]
    by_cases h64 : 64 ≤ q
    · obtain ⟨b, o, rfl, hbn, hcell⟩ := hsl.some_ (by omega)
      have hql : (xs.drop p).length = q := hsl.1
      have cm := mix_any hb t b o c (st (text ++ xs.take p)) (st_ok _) r' _ ((xs.drop p).take 64) wr (by rw [List.length_take]; omega) (hsl.2.1.take _) (by omega) hm hblk (fun i hi => by rw [at_take hi]; exact hcell i (by omega))
      rw [← more p hmod (by have := HX.out; omega)] at cm
      have hs2 := Kept.mk (hsl.drop 64 h64)
      rw [Option.map_some, show (⟨b, o, none⟩ : Addr).add 64 = ⟨b, o + 64, none⟩ by simp [Addr.add], List.drop_drop] at hs2
      have hnext : ∀ (w2 : World) (A2 : Option Addr), Sl w2 A2 (q - 64) (xs.drop (p + 64)) hb → Blk w2 hb 176 (hcells t (st (text ++ xs.take (p + 64))).toL r' (text.length + xs.length : Nat)) → Bar [hb] wr w2 → Kept (c - 64 ≤ 9223372036854775807 ∧ Wrel hb t text xs w (p + 64) (c - 64) A2 r' w2) := by
        intro w2 A2 s2 k2 b2
        have hX := HX.out
        refine ⟨by omega, by omega, by omega, ?_, by rw [show xs.length - (p + 64) = q - 64 by omega]; exact s2, hr, hrb, hm.bar b2 (by simpa using hne.symm), k2, hbar.trans b2 (by simp)⟩
        rw [List.length_append, List.length_take] at hmod ⊢
        omega
      have Cm := Kept.mk cm
      have Hnext := Kept.mk hnext
      have hq' : X - (p + 64) = q - 64 := by omega
      have Hq := Kept.mk hq'
      have Hsl := Kept.mk hsl
      clear hk hmod hsl hr hrb hm hblk hbar cm hnext hq hq' hql hcell hp
      by_cases hc64 : c = 64
      · subst hc64
        have hq0 : q - 64 = 0 := by omega
        go_wp2_with fail
        refine Cm.out.mono ?_
        rintro e w2 ⟨rfl, k2, b2⟩
        have rel := Hnext.out w2 (some ⟨b, o, none⟩) (by
          have := hs2.out.1
          rw [hq0] at this ⊢
          rw [List.eq_nil_of_length_eq_zero this]
          exact Sl.nil_) k2 b2
        replace rel := Kept.mk rel
        clear k2 b2
        go_wp2
        go_roundw
        case rel => exact ⟨p + 64, 64 - 64, _, r', by rw [Hq.out, hq0], rel.out⟩
        case measure => simp [lenOf]; omega
      · go_wp2_with fail
        refine Cm.out.mono ?_
        rintro e w2 ⟨rfl, k2, b2⟩
        have rel := Hnext.out w2 (some ⟨b, o + 64, none⟩) (hs2.out.bar b2 (by simp)) k2 b2
        replace rel := Kept.mk rel
        clear k2 b2
        go_wp2
        go_roundw
        case rel => exact ⟨p + 64, c - 64, _, r', by rw [Hq.out], rel.out⟩
        case measure => simp [lenOf]; omega
    · have hlf := left (r := r') p hmod (by rw [← HX.out]; omega) (by rw [← HX.out]; omega)
      have hql : (xs.drop p).length = q := hsl.1
      have hsrc := hsl.src q (by omega)
      rw [List.take_of_length_le (by omega)] at hsrc
      have hby2 : Bytes (xs.drop p) := hsl.2.1
      have fin : ∀ w2, Blk w2 hb 176 (splice (hcl t (st (text ++ xs.take p)).toL r' (text.length + xs.length : Nat)) (9 + 0) (ints .u8 (xs.drop p))).toArray → Bar [hb] wr w2 → Hs w2 hb t (text ++ xs) ∧ Bar [hb] w w2 := by
        intro w2 k2 b2
        rw [hcl_splice _ _ _ _ rfl hr 0 _ (by omega), ← hlf.2] at k2
        refine ⟨⟨hne, hm.bar b2 (by simpa using hne.symm), hby.append HBX.out, splice r' 0 (xs.drop p), by rw [splice_len (by omega), hr], splice_bytes hrb hby2, hlf.1, ?_⟩, hbar.trans b2 (by simp)⟩
        rw [List.length_append]; exact k2
      have Fin := Kept.mk fin
      have Hsrc := Kept.mk hsrc
      have Hblk := Kept.mk hblk
      have Hql := Kept.mk hql
      have Hr := Kept.mk hr
      clear hk hmod hsl hr hrb hm hblk hbar hlf hq hql hp hby2 hsrc fin
      go_upto_region 10 with (fail)
      apply wp_region_lit
      go_wp2_with ((with_reducible refine sel 58 ?_); refine wpList_copy_bar rfl (.tmp 56) (.tmp 57) 38 38 rfl 5 Tryz.underlying38 (by kernel_rfl) _ _ _ _ _ _ rfl rfl hb (9 + 0) _ 176 Hblk.out (ints .u8 (xs.drop p)) (by rw [ints_len, Hql.out]; exact (Nat.min_eq_left (by omega)).symm) (fun h0 => ⟨rfl, Hsrc.out h0⟩) (by rw [ints_len, Hql.out, hc_len _ _ _ _ rfl Hr.out]; omega) (ints_one _ _) ?_; intro w2 HG HB)
      have F := Kept.mk (Fin.out w2 HG.out HB)
      clear HG HB
      go_wp2
      go_end0
      exact ⟨rfl, F.out⟩

set_option maxRecDepth 100000 in
set_option maxHeartbeats 1000000 in
theorem write_1 (hb t : Nat) (text xs : List Int) (A : Option Addr) (n cap : Nat) (w : World) (hh : Hs w hb t text) (hs : Sl w A n xs hb) (hcap : n ≤ cap) (hmax : cap ≤ 9223372036854775807) (htot : text.length + n < 1152921504606846976) (hheld : 0 < text.length % 64) :
    Calls Tryz.prog 96 #[.pointer (some ⟨hb, 0, none⟩), .slice A n cap] w fun e w' => e = .returned (.tuple #[]) ∧ Hs w' hb t (text ++ xs) ∧ Bar [hb] w w' := by
  obtain ⟨hne, hm, hby, r, hr, hrb, he, hblk⟩ := hh
  obtain ⟨rfl, hbx, -⟩ := id hs
  have HBX := Kept.mk hbx
  clear hbx
  obtain ⟨L, hL⟩ : ∃ L, text.length = L := ⟨_, rfl⟩
  obtain ⟨h, hh⟩ : ∃ h, text.length % 64 = h := ⟨_, rfl⟩
  rw [hL] at htot
  rw [hh] at hheld
  have hh64 : h < 64 := by omega
  have hh64' : (h : Int) ≤ 64 := by omega
  have HL := Kept.mk hL
  have c1 : w.cell? ⟨hb, 73, none⟩ = some (.int .u64 (L : Nat)) := by rw [← hL]; exact (hblk.cell 73).trans (hc_size _ _ _ _ rfl hr)
  have z1 := hblk.frozen 73
  obtain ⟨X, hX⟩ : ∃ X, X = xs.length := ⟨_, rfl⟩
  have HX := Kept.mk hX
  have hheld' : ((L : Nat) : Int) % 64 = (h : Nat) := by rw [← hL]; omega
  -- behind the count's store
  have k0 := hblk.set_ 73 (.int .u64 ((L : Int) + (X : Int)))
  rw [hc_setn _ _ _ _ rfl hr] at k0
  have s0 := hs.bar ((Bar.refl [hb] w).setCell (p := ⟨hb, 73, none⟩) (by simp) (.int .u64 ((L : Int) + (X : Int)))) (by simp)
  have m0 : Made (w.setCell ⟨hb, 73, none⟩ (.int .u64 ((L : Int) + (X : Int)))) t := hm.far (by simpa using hne.symm) _
  have b0 := (Bar.refl [hb] w).setCell (p := ⟨hb, 73, none⟩) (by simp) (.int .u64 ((L : Int) + (X : Int)))
  obtain ⟨m, hm'⟩ : ∃ m, min X (64 - h) = m := ⟨_, rfl⟩
  have hsrc := s0.src m (by omega)
  have hlm : (xs.take m).length = m := by rw [List.length_take]; omega
  have fin1 : X < 64 - h → ∀ w2, Blk w2 hb 176 (splice (hcl t (st text).toL r ((L : Int) + (X : Int))) (9 + h) (ints .u8 (xs.take m))).toArray → Bar [hb] (w.setCell ⟨hb, 73, none⟩ (.int .u64 ((L : Int) + (X : Int)))) w2 → Hs w2 hb t (text ++ xs) ∧ Bar [hb] w w2 := by
    intro hlt w2 k2 b2
    have e1 : xs.take m = xs := List.take_of_length_le (by omega)
    rw [e1] at k2
    have hf := few (xs := xs) hr he (by omega)
    rw [hcl_splice _ _ _ _ rfl hr h _ (by omega), ← hf.2] at k2
    refine ⟨⟨hne, m0.bar b2 (by simpa using hne.symm), hby.append HBX.out, splice r h xs, by rw [splice_len (by omega), hr], splice_bytes hrb HBX.out, by rw [← hh]; exact hf.1, ?_⟩, b0.trans b2 (by simp)⟩
    rw [List.length_append, Int.natCast_add, ← hX, hL]; exact k2
  have fin2 : 64 - h ≤ X → ∀ w2, Blk w2 hb 176 (splice (hcl t (st text).toL r ((L : Int) + (X : Int))) (9 + h) (ints .u8 (xs.take m))).toArray → Bar [hb] (w.setCell ⟨hb, 73, none⟩ (.int .u64 ((L : Int) + (X : Int)))) w2 →
      Calls Tryz.prog 119 #[.pointer (some ⟨hb, 0, none⟩), .slice (some ⟨hb, 9, none⟩) 64 64] w2 fun e w3 => e = .returned (.tuple #[]) ∧ Kept (Sl w3 A X xs hb ∧ ∀ A2, Sl w3 A2 (X - m) (xs.drop m) hb → Kept (cap - m ≤ 9223372036854775807 ∧ Wrel hb t text xs w m (cap - m) A2 (splice r h (xs.take m)) w3)) := by
    intro hge w2 k2 b2
    have hm2 : m = 64 - h := by omega
    have hl2 : (splice r h (xs.take m)).length = 64 := by rw [splice_len (by omega), hr]
    have hb2 : Bytes (splice r h (xs.take m)) := splice_bytes hrb (HBX.out.take _)
    rw [hcl_splice _ _ _ _ rfl hr h _ (by omega)] at k2
    have mw := m0.bar b2 (by simpa using hne.symm)
    refine (mix_any hb t hb 9 64 (st text) (st_ok _) _ _ _ w2 hl2 hb2 (Nat.le_refl _) mw k2 (fun i hi => (k2.cell (9 + i)).trans (hc_rest _ _ _ _ rfl hl2 i hi))).mono ?_
    rintro e w3 ⟨rfl, k3, b3⟩
    have hf := full (xs := xs) hr he (by omega) (by omega)
    rw [hh, ← hm2] at hf
    rw [← hf, ← hL, ← Int.natCast_add, hX] at k3
    refine ⟨rfl, ⟨?_, fun A2 s2 => ⟨by omega, by omega, by omega, ?_, by rw [← hX]; exact s2, hl2, hb2, mw.bar b3 (by simpa using hne.symm), k3, (b0.trans b2 (by simp)).trans b3 (by simp)⟩⟩⟩
    · have := (s0.bar b2 (by simp)).bar b3 (by simp)
      rw [hX]; exact this
    · rw [List.length_append, hlm]; omega
  have Fin1 := Kept.mk fin1
  have Fin2 := Kept.mk fin2
  have Hsrc := Kept.mk hsrc
  have K0 := Kept.mk k0
  have Hlm := Kept.mk hlm
  have Hr := Kept.mk hr
  have S0 := Kept.mk s0
  clear hsrc fin1 fin2 k0 s0 m0 b0 hblk he hr hrb hm hL hlm hh
  by_cases hlt : X < 64 - h
  · rw [Nat.min_eq_left (by omega)] at hm'
    subst hm'
    rw [← hX] at hcap ⊢
    clear hX hs
    have hlt' : (h : Int) + (X : Int) < 64 := by omega
    go_enter Tryz.func96, Tryz.ntmps96
    go_wp2_with ((with_reducible refine sel 30 ?_); refine wpList_copy_bar rfl (.tmp 28) (.tmp 29) 38 38 rfl 5 Tryz.underlying38 (by kernel_rfl) _ _ _ _ _ _ rfl rfl hb (9 + h) _ 176 K0.out (ints .u8 (xs.take X)) (by rw [ints_len, Hlm.out]; exact (Nat.min_eq_left (by omega)).symm) (fun h0 => ⟨rfl, Hsrc.out h0⟩) (by rw [ints_len, Hlm.out, hc_len _ _ _ _ rfl Hr.out]; omega) (ints_one _ _) ?_; intro w2 HG HB; have F := Kept.mk (Fin1.out hlt w2 HG.out HB); clear HG HB; rw [ints_len, Hlm.out])
    go_wp2
    refine bodyPost_ret (results_none rfl _ _ _) rfl ?_
    exact ⟨rfl, F.out⟩
  · have hge : 64 - h ≤ X := by omega
    have em : min X (64 - h) = 64 - h := by omega
    rw [em] at hm'
    have hmX : m ≤ X := by omega
    have eM : (64 : Nat) - h = m := hm'
    have EM := Kept.mk eM
    rw [← hX] at hcap ⊢
    clear hX hs em hm'
    obtain ⟨g, hg⟩ : ∃ g, (h : Int) + (m : Int) = g := ⟨_, rfl⟩
    have hg64 : (h : Int) + (m : Int) = 64 := by omega
    by_cases hcm : cap = m
    · obtain rfl : cap = X := by omega
      obtain rfl : cap = m := hcm
      clear hg eM
      go_enter Tryz.func96, Tryz.ntmps96
      go_wp2_with ((with_reducible refine sel 30 ?_); refine wpList_copy_bar rfl (.tmp 28) (.tmp 29) 38 38 rfl 5 Tryz.underlying38 (by kernel_rfl) _ _ _ _ _ _ rfl rfl hb (9 + h) _ 176 K0.out (ints .u8 (xs.take cap)) (by rw [ints_len, Hlm.out]; exact by rw [EM.out]; exact (Nat.min_self _).symm) (fun h0 => ⟨rfl, Hsrc.out h0⟩) (by rw [ints_len, Hlm.out, hc_len _ _ _ _ rfl Hr.out]; omega) (ints_one _ _) ?_; intro w2 HG HB; have F := Kept.mk (Fin2.out (by rw [EM.out]; exact Nat.le_refl _) w2 HG.out HB); clear HG HB; rw [ints_len, Hlm.out])
      refine F.out.mono ?_
      rintro e w3 ⟨rfl, R⟩
      clear F
      have R0 := R.out.2 A (by rw [Nat.sub_self, List.drop_eq_nil_of_le (by have := HX.out; omega)]; exact Sl.nil_)
      rw [Nat.sub_self] at R0
      clear R K0 Fin1 Fin2 Hsrc Hlm S0 hge hlt
      go_wp2
      go_loopw [1] (fun v wr => ∃ (p c : Nat) (A : Option Addr) (r : List Int), v = .slice A (cap - p) c ∧ Kept (c ≤ 9223372036854775807 ∧ Wrel hb t text xs w p c A r wr)) (fun v _ => lenOf v)
      case atStart => exact ⟨cap, 0, A, splice r h (xs.take cap), by rw [Nat.sub_self], R0⟩
      case round =>
        clear R0
        obtain ⟨p, c, A', r', rfl, hk⟩ := hrel
        obtain ⟨hc, h⟩ := hk.out
        obtain ⟨hp, hpc, hmod, hsl, hr, hrb, hm, hblk, hbar⟩ := h
        rw [← HX.out] at hp hpc hsl
        obtain ⟨q, hq⟩ : ∃ q, cap - p = q := ⟨_, rfl⟩
        rw [hq] at hpc hsl
        rw [hq]
        by_cases h64 : 64 ≤ q
        · obtain ⟨b, o, rfl, hbn, hcell⟩ := hsl.some_ (by omega)
          have hql : (xs.drop p).length = q := hsl.1
          have cm := mix_any hb t b o c (st (text ++ xs.take p)) (st_ok _) r' _ ((xs.drop p).take 64) wr (by rw [List.length_take]; omega) (hsl.2.1.take _) (by omega) hm hblk (fun i hi => by rw [at_take hi]; exact hcell i (by omega))
          rw [← more p hmod (by have := HX.out; omega)] at cm
          have hs2 := Kept.mk (hsl.drop 64 h64)
          rw [Option.map_some, show (⟨b, o, none⟩ : Addr).add 64 = ⟨b, o + 64, none⟩ by simp [Addr.add], List.drop_drop] at hs2
          have hnext : ∀ (w2 : World) (A2 : Option Addr), Sl w2 A2 (q - 64) (xs.drop (p + 64)) hb → Blk w2 hb 176 (hcells t (st (text ++ xs.take (p + 64))).toL r' (text.length + xs.length : Nat)) → Bar [hb] wr w2 → Kept (c - 64 ≤ 9223372036854775807 ∧ Wrel hb t text xs w (p + 64) (c - 64) A2 r' w2) := by
            intro w2 A2 s2 k2 b2
            have hX := HX.out
            refine ⟨by omega, by omega, by omega, ?_, by rw [show xs.length - (p + 64) = q - 64 by omega]; exact s2, hr, hrb, hm.bar b2 (by simpa using hne.symm), k2, hbar.trans b2 (by simp)⟩
            rw [List.length_append, List.length_take] at hmod ⊢
            omega
          have Cm := Kept.mk cm
          have Hnext := Kept.mk hnext
          have hq' : cap - (p + 64) = q - 64 := by omega
          have Hq := Kept.mk hq'
          have Hsl := Kept.mk hsl
          clear hk hmod hsl hr hrb hm hblk hbar cm hnext hq hq' hql hcell hp
          by_cases hc64 : c = 64
          · subst hc64
            have hq0 : q - 64 = 0 := by omega
            go_wp2_with fail
            refine Cm.out.mono ?_
            rintro e w2 ⟨rfl, k2, b2⟩
            have rel := Hnext.out w2 (some ⟨b, o, none⟩) (by
              have := hs2.out.1
              rw [hq0] at this ⊢
              rw [List.eq_nil_of_length_eq_zero this]
              exact Sl.nil_) k2 b2
            replace rel := Kept.mk rel
            clear k2 b2
            go_wp2
            go_roundw
            case rel => exact ⟨p + 64, 64 - 64, _, r', by rw [Hq.out, hq0], rel.out⟩
            case measure => simp [lenOf]; omega
          · go_wp2_with fail
            refine Cm.out.mono ?_
            rintro e w2 ⟨rfl, k2, b2⟩
            have rel := Hnext.out w2 (some ⟨b, o + 64, none⟩) (hs2.out.bar b2 (by simp)) k2 b2
            replace rel := Kept.mk rel
            clear k2 b2
            go_wp2
            go_roundw
            case rel => exact ⟨p + 64, c - 64, _, r', by rw [Hq.out], rel.out⟩
            case measure => simp [lenOf]; omega
        · have hlf := left (r := r') p hmod (by rw [← HX.out]; omega) (by rw [← HX.out]; omega)
          have hql : (xs.drop p).length = q := hsl.1
          have hsrc := hsl.src q (by omega)
          rw [List.take_of_length_le (by omega)] at hsrc
          have hby2 : Bytes (xs.drop p) := hsl.2.1
          have fin : ∀ w2, Blk w2 hb 176 (splice (hcl t (st (text ++ xs.take p)).toL r' (text.length + xs.length : Nat)) (9 + 0) (ints .u8 (xs.drop p))).toArray → Bar [hb] wr w2 → Hs w2 hb t (text ++ xs) ∧ Bar [hb] w w2 := by
            intro w2 k2 b2
            rw [hcl_splice _ _ _ _ rfl hr 0 _ (by omega), ← hlf.2] at k2
            refine ⟨⟨hne, hm.bar b2 (by simpa using hne.symm), hby.append HBX.out, splice r' 0 (xs.drop p), by rw [splice_len (by omega), hr], splice_bytes hrb hby2, hlf.1, ?_⟩, hbar.trans b2 (by simp)⟩
            rw [List.length_append]; exact k2
          have Fin := Kept.mk fin
          have Hsrc := Kept.mk hsrc
          have Hblk := Kept.mk hblk
          have Hql := Kept.mk hql
          have Hr := Kept.mk hr
          clear hk hmod hsl hr hrb hm hblk hbar hlf hq hql hp hby2 hsrc fin
          go_upto_region 10 with (fail)
          apply wp_region_lit
          go_wp2_with ((with_reducible refine sel 58 ?_); refine wpList_copy_bar rfl (.tmp 56) (.tmp 57) 38 38 rfl 5 Tryz.underlying38 (by kernel_rfl) _ _ _ _ _ _ rfl rfl hb (9 + 0) _ 176 Hblk.out (ints .u8 (xs.drop p)) (by rw [ints_len, Hql.out]; exact (Nat.min_eq_left (by omega)).symm) (fun h0 => ⟨rfl, Hsrc.out h0⟩) (by rw [ints_len, Hql.out, hc_len _ _ _ _ rfl Hr.out]; omega) (ints_one _ _) ?_; intro w2 HG HB)
          have F := Kept.mk (Fin.out w2 HG.out HB)
          clear HG HB
          go_wp2
          go_end0
          exact ⟨rfl, F.out⟩
    · obtain ⟨b0, o0, rfl, hbn0, hcell0⟩ := S0.out.some_ (by have := HX.out; omega)
      clear hcell0
      have hge2 : (m : Int) ≤ (X : Int) := by omega
      clear hg eM
      go_enter Tryz.func96, Tryz.ntmps96
      go_wp2_with ((with_reducible refine sel 30 ?_); refine wpList_copy_bar rfl (.tmp 28) (.tmp 29) 38 38 rfl 5 Tryz.underlying38 (by kernel_rfl) _ _ _ _ _ _ rfl rfl hb (9 + h) _ 176 K0.out (ints .u8 (xs.take m)) (by rw [ints_len, Hlm.out]; exact by rw [EM.out]; exact (Nat.min_eq_right hmX).symm) (fun h0 => ⟨rfl, Hsrc.out h0⟩) (by rw [ints_len, Hlm.out, hc_len _ _ _ _ rfl Hr.out]; omega) (ints_one _ _) ?_; intro w2 HG HB; have F := Kept.mk (Fin2.out hge w2 HG.out HB); clear HG HB; rw [ints_len, Hlm.out])
      refine F.out.mono ?_
      rintro e w3 ⟨rfl, R⟩
      clear F
      have R0 := R.out.2 (some ⟨b0, o0 + m, none⟩) (by
        have := R.out.1.drop m hmX
        rwa [Option.map_some, show (⟨b0, o0, none⟩ : Addr).add m = ⟨b0, o0 + m, none⟩ by cases m <;> simp [Addr.add]] at this)
      clear R K0 Fin1 Fin2 Hsrc Hlm S0 hge hlt
      go_wp2
      go_loopw [1] (fun v wr => ∃ (p c : Nat) (A : Option Addr) (r : List Int), v = .slice A (X - p) c ∧ Kept (c ≤ 9223372036854775807 ∧ Wrel hb t text xs w p c A r wr)) (fun v _ => lenOf v)
      case atStart => exact ⟨m, cap - m, some ⟨b0, o0 + m, none⟩, splice r h (xs.take m), rfl, R0⟩
      case round =>
        clear R0
        obtain ⟨p, c, A', r', rfl, hk⟩ := hrel
        obtain ⟨hc, h⟩ := hk.out
        obtain ⟨hp, hpc, hmod, hsl, hr, hrb, hm, hblk, hbar⟩ := h
        rw [← HX.out] at hp hpc hsl
        obtain ⟨q, hq⟩ : ∃ q, X - p = q := ⟨_, rfl⟩
        rw [hq] at hpc hsl
        rw [hq]
        by_cases h64 : 64 ≤ q
        · obtain ⟨b, o, rfl, hbn, hcell⟩ := hsl.some_ (by omega)
          have hql : (xs.drop p).length = q := hsl.1
          have cm := mix_any hb t b o c (st (text ++ xs.take p)) (st_ok _) r' _ ((xs.drop p).take 64) wr (by rw [List.length_take]; omega) (hsl.2.1.take _) (by omega) hm hblk (fun i hi => by rw [at_take hi]; exact hcell i (by omega))
          rw [← more p hmod (by have := HX.out; omega)] at cm
          have hs2 := Kept.mk (hsl.drop 64 h64)
          rw [Option.map_some, show (⟨b, o, none⟩ : Addr).add 64 = ⟨b, o + 64, none⟩ by simp [Addr.add], List.drop_drop] at hs2
          have hnext : ∀ (w2 : World) (A2 : Option Addr), Sl w2 A2 (q - 64) (xs.drop (p + 64)) hb → Blk w2 hb 176 (hcells t (st (text ++ xs.take (p + 64))).toL r' (text.length + xs.length : Nat)) → Bar [hb] wr w2 → Kept (c - 64 ≤ 9223372036854775807 ∧ Wrel hb t text xs w (p + 64) (c - 64) A2 r' w2) := by
            intro w2 A2 s2 k2 b2
            have hX := HX.out
            refine ⟨by omega, by omega, by omega, ?_, by rw [show xs.length - (p + 64) = q - 64 by omega]; exact s2, hr, hrb, hm.bar b2 (by simpa using hne.symm), k2, hbar.trans b2 (by simp)⟩
            rw [List.length_append, List.length_take] at hmod ⊢
            omega
          have Cm := Kept.mk cm
          have Hnext := Kept.mk hnext
          have hq' : X - (p + 64) = q - 64 := by omega
          have Hq := Kept.mk hq'
          have Hsl := Kept.mk hsl
          clear hk hmod hsl hr hrb hm hblk hbar cm hnext hq hq' hql hcell hp
          by_cases hc64 : c = 64
          · subst hc64
            have hq0 : q - 64 = 0 := by omega
            go_wp2_with fail
            refine Cm.out.mono ?_
            rintro e w2 ⟨rfl, k2, b2⟩
            have rel := Hnext.out w2 (some ⟨b, o, none⟩) (by
              have := hs2.out.1
              rw [hq0] at this ⊢
              rw [List.eq_nil_of_length_eq_zero this]
              exact Sl.nil_) k2 b2
            replace rel := Kept.mk rel
            clear k2 b2
            go_wp2
            go_roundw
            case rel => exact ⟨p + 64, 64 - 64, _, r', by rw [Hq.out, hq0], rel.out⟩
            case measure => simp [lenOf]; omega
          · go_wp2_with fail
            refine Cm.out.mono ?_
            rintro e w2 ⟨rfl, k2, b2⟩
            have rel := Hnext.out w2 (some ⟨b, o + 64, none⟩) (hs2.out.bar b2 (by simp)) k2 b2
            replace rel := Kept.mk rel
            clear k2 b2
            go_wp2
            go_roundw
            case rel => exact ⟨p + 64, c - 64, _, r', by rw [Hq.out], rel.out⟩
            case measure => simp [lenOf]; omega
        · have hlf := left (r := r') p hmod (by rw [← HX.out]; omega) (by rw [← HX.out]; omega)
          have hql : (xs.drop p).length = q := hsl.1
          have hsrc := hsl.src q (by omega)
          rw [List.take_of_length_le (by omega)] at hsrc
          have hby2 : Bytes (xs.drop p) := hsl.2.1
          have fin : ∀ w2, Blk w2 hb 176 (splice (hcl t (st (text ++ xs.take p)).toL r' (text.length + xs.length : Nat)) (9 + 0) (ints .u8 (xs.drop p))).toArray → Bar [hb] wr w2 → Hs w2 hb t (text ++ xs) ∧ Bar [hb] w w2 := by
            intro w2 k2 b2
            rw [hcl_splice _ _ _ _ rfl hr 0 _ (by omega), ← hlf.2] at k2
            refine ⟨⟨hne, hm.bar b2 (by simpa using hne.symm), hby.append HBX.out, splice r' 0 (xs.drop p), by rw [splice_len (by omega), hr], splice_bytes hrb hby2, hlf.1, ?_⟩, hbar.trans b2 (by simp)⟩
            rw [List.length_append]; exact k2
          have Fin := Kept.mk fin
          have Hsrc := Kept.mk hsrc
          have Hblk := Kept.mk hblk
          have Hql := Kept.mk hql
          have Hr := Kept.mk hr
          clear hk hmod hsl hr hrb hm hblk hbar hlf hq hql hp hby2 hsrc fin
          go_upto_region 10 with (fail)
          apply wp_region_lit
          go_wp2_with ((with_reducible refine sel 58 ?_); refine wpList_copy_bar rfl (.tmp 56) (.tmp 57) 38 38 rfl 5 Tryz.underlying38 (by kernel_rfl) _ _ _ _ _ _ rfl rfl hb (9 + 0) _ 176 Hblk.out (ints .u8 (xs.drop p)) (by rw [ints_len, Hql.out]; exact (Nat.min_eq_left (by omega)).symm) (fun h0 => ⟨rfl, Hsrc.out h0⟩) (by rw [ints_len, Hql.out, hc_len _ _ _ _ rfl Hr.out]; omega) (ints_one _ _) ?_; intro w2 HG HB)
          have F := Kept.mk (Fin.out w2 HG.out HB)
          clear HG HB
          go_wp2
          go_end0
          exact ⟨rfl, F.out⟩

theorem write_any (hb t : Nat) (text xs : List Int) (A : Option Addr) (n cap : Nat) (w : World) (hh : Hs w hb t text) (hs : Sl w A n xs hb) (hcap : n ≤ cap) (hmax : cap ≤ 9223372036854775807) (htot : text.length + n < 1152921504606846976) :
    Calls Tryz.prog 96 #[.pointer (some ⟨hb, 0, none⟩), .slice A n cap] w fun e w' => e = .returned (.tuple #[]) ∧ Hs w' hb t (text ++ xs) ∧ Bar [hb] w w' := by
  by_cases h : text.length % 64 = 0
  · exact write_0 hb t text xs A n cap w hh hs hcap hmax htot h
  · exact write_1 hb t text xs A n cap w hh hs hcap hmax htot (by omega)
end Go.Proofs.YtjlhnhkjgcbnnaaGreat.Sha

/-
  (*Hash).pad, Sum, One: the sum of what was written.
-/

namespace Go.Proofs.YtjlhnhkjgcbnnaaGreat.Sha
open Go.RowKit

/-- byte x of the end as it is built: the count's last 8 - k bytes stand -/
def tc (L k x : Nat) : Int := if x = 0 then 128 else if 1 + padn L + k ≤ x ∧ x < 9 + padn L then ((L * 8 / 256 ^ (7 - (x - (1 + padn L))) % 256 : Nat) : Int) else 0
def TL (L k : Nat) : List Int := (List.range 72).map (tc L k)
theorem TL_len (L k : Nat) : (TL L k).length = 72 := by simp [TL]
theorem TL_at (L k x : Nat) (h : x < 72) : at_ (TL L k) x = tc L k x := at_range _ _ _ h
theorem TL_set (L k : Nat) (hk : k < 8) : (TL L (k + 1)).set (1 + padn L + k) ((L * 8 / 256 ^ (7 - k) % 256 : Nat) : Int) = TL L k := by
  have hp := padn_le L
  apply at_ext
  · rw [List.length_set, TL_len, TL_len]
  · intro i hi
    rw [List.length_set, TL_len] at hi
    rw [at_set _ _ _ _ (by rw [TL_len]; exact hi), TL_at _ _ _ hi, TL_at _ _ _ hi]
    by_cases h : 1 + padn L + k = i
    · subst h
      rw [if_pos rfl, tc, if_neg (by omega), if_pos (by omega), show 1 + padn L + k - (1 + padn L) = k by omega]
    · rw [if_neg h, tc, tc]
      by_cases h0 : i = 0
      · rw [if_pos h0, if_pos h0]
      · rw [if_neg h0, if_neg h0]
        by_cases h1 : 1 + padn L + (k + 1) ≤ i ∧ i < 9 + padn L
        · rw [if_pos h1, if_pos (by omega)]
        · rw [if_neg h1, if_neg (by omega)]
theorem TL_8 (L : Nat) : TL L 8 = (List.replicate 72 (0 : Int)).set 0 128 := by
  apply at_ext
  · rw [TL_len, List.length_set, List.length_replicate]
  · intro i hi
    rw [TL_len] at hi
    rw [TL_at _ _ _ hi, at_set _ _ _ _ (by rw [List.length_replicate]; exact hi), tc]
    by_cases h0 : i = 0
    · subst h0; simp
    · rw [if_neg h0, if_neg (by omega), if_neg (by omega)]
      unfold at_
      rw [List.getD_eq_getElem?_getD, List.getElem?_replicate, if_pos hi]
      rfl
theorem TL_0 (L : Nat) : (TL L 0).take (9 + padn L) = tail L := by
  have hp := padn_le L
  apply at_ext
  · rw [List.length_take, TL_len, tail_len]; omega
  · intro i hi
    rw [List.length_take, TL_len] at hi
    rw [at_take (by omega), TL_at _ _ _ (by omega), tc, tail]
    match i with
    | 0 => rfl
    | i + 1 =>
      rw [if_neg (by omega)]
      show _ = at_ (List.replicate (padn L) 0 ++ be8 (L * 8)) i
      by_cases h : i < padn L
      · rw [if_neg (by omega), at_append_left (by simpa using h)]
        simp [at_, h]
      · rw [if_pos (by omega), at_append_right (by simp; omega), List.length_replicate, be8, at_range _ _ _ (by omega), show i + 1 - (1 + padn L) = i - padn L by omega]
set_option maxRecDepth 100000 in
set_option maxHeartbeats 1000000 in
theorem pad_any (hb t : Nat) (text : List Int) (w : World) (hh : Hs w hb t text) (hL0 : text.length < 576460752303423488) :
    Calls Tryz.prog 120 #[.pointer (some ⟨hb, 0, none⟩)] w fun e w' => e = .returned (.tuple #[]) ∧ Hs w' hb t (text ++ tail text.length) ∧ Bar [hb] w w' := by
  obtain ⟨L, hL⟩ : ∃ L, text.length = L := ⟨_, rfl⟩
  obtain ⟨N, hN⟩ : ∃ N, w.heap.size = N := ⟨_, rfl⟩
  have hbN : hb < N := by obtain ⟨_, _, _, _, _, _, _, k⟩ := hh; rw [← hN]; exact k.lt
  have c1 : w.cell? ⟨hb, 73, none⟩ = some (.int .u64 (L : Nat)) := by
    obtain ⟨_, _, _, r, hr, _, _, k⟩ := hh
    rw [← hL]; exact (k.cell 73).trans (hc_size _ _ _ _ rfl hr)
  have tN : t < N := by obtain ⟨_, m, _⟩ := hh; rw [← hN]; exact Blk.lt m
  rw [hL] at hL0
  obtain ⟨P, hP⟩ : ∃ P, padn L = P := ⟨_, rfl⟩
  have hP63 : P ≤ 63 := by rw [← hP]; exact padn_le L
  have eP : (119 - (L : Int) % 64) % 64 = (P : Nat) := by rw [← hP]; unfold padn; omega
  have HL := Kept.mk hL
  have HP := Kept.mk hP
  have Hh := Kept.mk hh
  clear hL hP hh
  go_enter Tryz.func120, Tryz.ntmps120
  go_wp2
  rw [eP]
  clear eP c1
  go_loopw [4, 5] (fun v i wr => ∃ k : Nat, k ≤ 8 ∧ v = .int .u64 ((L * 8 / 256 ^ (8 - k) : Nat) : Int) ∧ i = .int .i64 ((k : Int) - 1) ∧ Hid (Blk wr N 189 (arr .u8 (TL L k))) ∧ Below N w wr) (fun _ i _ => (Go.RowKit.intOf i + 1).toNat)
  case atStart =>
    refine ⟨8, by omega, by simp, rfl, ?_, (Below.refl _ _).alloc (by omega) _⟩
    rw [TL_8, ← arr_set]
    exact Blk.new_at _ _ _ N hN.symm
  case round =>
    obtain ⟨k, hk, rfl, rfl, h1, b1⟩ := hrel
    cases k with
    | zero =>
      rw [show ((0 : Nat) : Int) - 1 = -1 by rfl]
      have hk1 := Hh.out
      have hs : Sl wr (some ⟨N, 0, none⟩) (1 + P + 8) (tail text.length) hb := by
        refine ⟨by rw [tail_len, HL.out, HP.out]; omega, tail_bytes _, .inr ⟨N, 0, rfl, by omega, fun i hi => ?_⟩⟩
        have hlt : i < 9 + padn L := by rw [HP.out]; omega
        rw [Nat.zero_add, HL.out, ← TL_0, at_take hlt]
        exact h1.out.at_ i (by rw [TL_len]; omega)
      have hh2 : Hs wr hb t text := by
        obtain ⟨hne, hm, hby, r, hr, hrb, he, hblk⟩ := hk1
        exact ⟨hne, hm.below b1 tN, hby, r, hr, hrb, he, hblk.below b1 hbN⟩
      have cw := write_any hb t text (tail text.length) (some ⟨N, 0, none⟩) (1 + P + 8) 72 wr hh2 hs (by omega) (by omega) (by rw [HL.out]; omega)
      have Cw := Kept.mk cw
      have B1 := Kept.mk b1
      clear hk1 hs hh2 cw h1 b1
      have s1 : (0 : Int) ≤ 1 + (P : Int) + 8 := by omega
      have s2 : 1 + (P : Int) + 8 ≤ 72 := by omega
      have s3 : (1 + (P : Int) + 8).toNat = 1 + P + 8 := by omega
      go_wp2_with fail
      refine Cw.out.mono ?_
      rintro e w2 ⟨rfl, k2, b2⟩
      have K2 := Kept.mk k2
      clear k2
      go_wp2
      go_end0
      refine ⟨rfl, K2.out, (barOf (hN ▸ B1.out) [hb]).trans b2 (by simp)⟩
    | succ k =>
      rw [show ((k + 1 : Nat) : Int) - 1 = (k : Int) by omega]
      have e1 := TL_set L k (by omega)
      rw [HP.out] at e1
      have hq2 : L * 8 / 256 ^ (7 - k) / 256 = L * 8 / 256 ^ (8 - k) := by
        have e : 256 ^ (7 - k) * 256 = 256 ^ (8 - k) := by rw [show 8 - k = 7 - k + 1 by omega, Nat.pow_succ]
        rw [Nat.div_div_eq_div_mul, e]
      have hqle : L * 8 / 256 ^ (7 - k) ≤ L * 8 := Nat.div_le_self _ _
      rw [show 8 - (k + 1) = 7 - k by omega]
      generalize L * 8 / 256 ^ (7 - k) = q at *
      have hc0 := h1.out.at_ (1 + P + k) (by rw [TL_len]; omega)
      have hz0 := h1.out.frozen (1 + P + k)
      have E1 := Kept.mk e1
      have HQ := Kept.mk hq2
      clear e1 hq2
      go_wp2
      go_roundw
      case rel =>
        refine ⟨k, by omega, by rw [← HQ.out]; rfl, rfl, ?_, b1.setCell (by simp) _⟩
        have := h1.out.set_ (1 + P + k) (.int .u8 ((q % 256 : Nat) : Int))
        rw [arr_set, E1.out] at this
        exact this
      case measure => simp [Go.RowKit.intOf]
end Go.Proofs.YtjlhnhkjgcbnnaaGreat.Sha

/-
  (*Hash).Sum: 32 bytes in new memory; what was written stands as it stood.
-/

namespace Go.Proofs.YtjlhnhkjgcbnnaaGreat.Sha
open Go.RowKit

def SumPost (text : List Int) (w : World) (e : Ending) (w' : World) : Prop := ∃ M, e = .returned (.slice (some ⟨M, 0, none⟩) 32 32) ∧ w.heap.size ≤ M ∧ Blk w' M 5 (arr .u8 (sha text)) ∧ Below w.heap.size w w'

set_option maxRecDepth 100000 in
set_option maxHeartbeats 1000000 in
theorem sum_any (hb t : Nat) (text : List Int) (w : World) (hh : Hs w hb t text) (hL0 : text.length < 576460752303423488) :
    Calls Tryz.prog 97 #[.pointer (some ⟨hb, 0, none⟩)] w (SumPost text w) := by
  obtain ⟨N, hN⟩ : ∃ N, w.heap.size = N := ⟨_, rfl⟩
  obtain ⟨s, hs⟩ : ∃ s, st (text ++ tail text.length) = s := ⟨_, rfl⟩
  obtain ⟨hne, hm, hby, r, hr, hrb, he, hblk⟩ := hh
  have hbN : hb < N := by rw [← hN]; exact hblk.lt
  have tN : t < N := by rw [← hN]; exact Blk.lt hm
  have hcl74 : (hcells t (st text).toL r (text.length : Nat)).size = 74 := by
    rw [hcells, List.size_toArray]; exact hc_len _ _ _ _ rfl hr
  have hone : (hcells t (st text).toL r (text.length : Nat)).all (·.oneCell') = true := by
    refine all_oneCell_toArray fun v hv => ?_
    unfold hcl at hv
    simp only [List.mem_append, List.mem_singleton] at hv
    rcases hv with rfl | hv | hv | rfl
    · rfl
    · exact ints_one _ _ v hv
    · exact ints_one _ _ v hv
    · rfl
  have Hblk := Kept.mk hblk
  have Hcopy : Kept (∀ z : Array Value, Hs ((w.alloc (.cells z 176)).setRow N (hcells t (st text).toL r (text.length : Nat))) N t text ∧ Below N w ((w.alloc (.cells z 176)).setRow N (hcells t (st text).toL r (text.length : Nat)))) := by
    refine ⟨fun z => ?_⟩
    have b : Below N w ((w.alloc (.cells z 176)).setRow N (hcells t (st text).toL r (text.length : Nat))) := below_setRow ((Below.refl _ _).alloc (by omega) _) (Nat.le_refl _) _
    exact ⟨⟨by omega, hm.below b tN, hby, r, hr, hrb, he, (Blk.new_at w _ _ N hN.symm).row _⟩, b⟩
  clear hblk hm hby he hr hrb hne
  have Hone := Kept.mk hone
  have Hcl := Kept.mk hcl74
  clear hone hcl74
  go_enter Tryz.func97, Tryz.ntmps97
  go_wp2_with (first
    | ((with_reducible refine sel 9 ?_); refine wpList_load_row rfl 176 (.tmp 8) rfl hb rfl 176 _ (0, 0) _ Hblk.out Tryz.underlying176 rfl (by rw [Hcl.out]; kernel_rfl) ?_)
    | ((with_reducible refine selS 176 (.tmp 3) (.tmp 9) ?_); refine wpList_store_row rfl 176 (.tmp 3) (.tmp 9) rfl N _ rfl rfl 176 _ (Blk.new_at _ _ _ N hN.symm) (by rw [Hcl.out]; kernel_rfl) (by rw [Hcl.out]; kernel_rfl) Hone.out ?_))
  refine (pad_any N t text _ (Hcopy.out _).1 hL0).mono ?_
  rintro e w2 ⟨rfl, k2, b2⟩
  have bb := (Hcopy.out _).2.trans (b2.below (B := N) (by simp [World.setRow]; omega) (by simp))
  clear b2 Hcopy Hone Hcl Hblk
  obtain ⟨hne2, hm2, hby2, r2, hr2, hrb2, he2, kb⟩ := k2
  rw [hs] at kb
  have e0 : w2.cell? ⟨N, 1, none⟩ = some (.int .u32 s.a) := (kb.cell 1).trans (hc_state _ _ _ _ rfl 0 (by omega))
  have e1 : w2.cell? ⟨N, 2, none⟩ = some (.int .u32 s.b) := (kb.cell 2).trans (hc_state _ _ _ _ rfl 1 (by omega))
  have e2 : w2.cell? ⟨N, 3, none⟩ = some (.int .u32 s.c) := (kb.cell 3).trans (hc_state _ _ _ _ rfl 2 (by omega))
  have e3 : w2.cell? ⟨N, 4, none⟩ = some (.int .u32 s.d) := (kb.cell 4).trans (hc_state _ _ _ _ rfl 3 (by omega))
  have e4 : w2.cell? ⟨N, 5, none⟩ = some (.int .u32 s.e) := (kb.cell 5).trans (hc_state _ _ _ _ rfl 4 (by omega))
  have e5 : w2.cell? ⟨N, 6, none⟩ = some (.int .u32 s.f) := (kb.cell 6).trans (hc_state _ _ _ _ rfl 5 (by omega))
  have e6 : w2.cell? ⟨N, 7, none⟩ = some (.int .u32 s.g) := (kb.cell 7).trans (hc_state _ _ _ _ rfl 6 (by omega))
  have e7 : w2.cell? ⟨N, 8, none⟩ = some (.int .u32 s.h) := (kb.cell 8).trans (hc_state _ _ _ _ rfl 7 (by omega))
  have hN2 := kb.lt
  clear hne2 hm2 hby2 hr2 hrb2 he2 kb
  obtain ⟨M, hM⟩ : ∃ M, w2.heap.size = M := ⟨_, rfl⟩
  obtain ⟨iu, hi, hz0, hz1, hz2⟩ := info_parts info_u8
  have HI := Kept.mk hi; have Z0 := Kept.mk hz0; have Z1 := Kept.mk hz1; have Z2 := Kept.mk hz2
  clear hi hz0 hz1 hz2
  go_wp2_with ((with_reducible refine sel 11 ?_); refine wpList_make_own w2 rfl _ _ 38 rfl N 5 iu (.int .u8 0) 1 Tryz.underlying38 HI.out Z0.out Z1.out .i64 .i64 32 32 rfl rfl rfl (by rw [Z2.out]; omega) (by unfold maxLen; omega) (by have := bb.size; omega) ?_; intro w3 ho hg; have f0 := hg.cell e0 (by simp); have f1 := hg.cell e1 (by simp); have f2 := hg.cell e2 (by simp); have f3 := hg.cell e3 (by simp); have f4 := hg.cell e4 (by simp); have f5 := hg.cell e5 (by simp); have f6 := hg.cell e6 (by simp); have f7 := hg.cell e7 (by simp); have HO := Kept.mk ho; have HG := Kept.mk hg; clear ho hg; rw [hM])
  have b3 : Below N w w3 := bb.grown HG.out (by omega) (by simp)
  go_loopw [4, 14] (fun v i wr => ∃ k : Nat, k ≤ 8 ∧ v = .slice (some ⟨M, 0, none⟩) (4 * k) 32 ∧ i = .int .i64 k ∧ Kept (wr.ownsRow N 5 1 (.slice (some ⟨M, 0, none⟩) (4 * k) 32) (4 * k) (ints .u8 (outK s k))) ∧ Below N w wr) (fun _ i _ => 8 - (Go.RowKit.intOf i).toNat)
  case atStart => exact ⟨0, by omega, rfl, rfl, ⟨by have := HO.out; rw [hM] at this; exact this⟩, b3⟩
  case round =>
    clear HO HG f0 f1 f2 f3 f4 f5 f6 f7 b3 e0 e1 e2 e3 e4 e5 e6 e7
    obtain ⟨k, hk, rfl, rfl, ho, b1⟩ := hrel
    by_cases hlt : k < 8
    · have hix : (Instr.index 77 (.agg #[.int .u32 s.a, .int .u32 s.b, .int .u32 s.c, .int .u32 s.d, .int .u32 s.e, .int .u32 s.f, .int .u32 s.g, .int .u32 s.h]) (.int .i64 (k : Int))).run Tryz.prog wr = .ok (.int .u32 (at_ s.toL k)) wr :=
        index_arr (P := Tryz.prog) (k := .u32) (l := s.toL) Tryz.underlying77 Tryz.underlying67 (by kernel_rfl) rfl k hlt wr
      have k8 : (k : Int) < 8 := by omega
      have hx := S8.at32 (s := s) (by rw [← hs]; exact st_ok _) k
      have hsucc := outK_succ s k
      generalize at_ s.toL k = x at *
      obtain ⟨hx0, hx1⟩ := hx
      have Hsucc := Kept.mk hsucc
      clear hsucc
      have hx24 : x / 16777216 % 256 = x / 16777216 := by omega
      have Hx24 := Kept.mk hx24
      clear hx24
      have hMN : N ≤ M := by have := bb.size; omega
      go_wp2_with ((with_reducible refine sel 30 ?_); refine wpList_append_fits _ rfl (.tmp 17) (.tmp 29) 38 rfl N 5 iu 1 Tryz.underlying38 HI.out Z1.out M (4 * k) 32 (ints .u8 (outK s k)) rfl (ho.out.alloc _) ⟨wr.heap.size, 0, none⟩ 4 4 [.int .u8 (x / 16777216), .int .u8 (x / 65536 % 256), .int .u8 (x / 256 % 256), .int .u8 (x % 256)] rfl rfl (new_cells _ _ _) (by intro u hu; simp only [List.mem_cons, List.not_mem_nil, or_false] at hu; rcases hu with rfl | rfl | rfl | rfl <;> rfl) (by omega) ?_; intro w4 ho4 hg4; have b4 := Kept.mk ((b1.alloc (by have := b1.size; omega) _).grown hg4 (by have := b1.size; simp; omega) (by intro g hg; injection hg with hg; omega)); have O4 := Kept.mk ho4; clear ho4 hg4)
      go_roundw
      case rel =>
        refine ⟨k + 1, by omega, rfl, by go_num, ⟨?_⟩, b4.out⟩
        have := O4.out
        rw [Hsucc.out, ints_append]
        simpa [ints, Hx24.out, Nat.mul_add] using this
      case measure => simp [Go.RowKit.intOf]; omega
    · have ek : k = 8 := by omega
      have h8 := ho.out
      rw [ek] at h8
      clear ho hk hlt
      have hM2 : w.heap.size ≤ M := by have := bb.size; omega
      have hk2 : Blk wr M 5 (arr .u8 (sha text)) := by
        rcases h8.2 with ⟨h, _⟩ | ⟨g, cap, cur, hv, hg, hh, hnc, _, hsz, htk⟩
        · cases h
        · injection hv with h1 h2 h3
          injection h1 with h1
          injection h1 with h1
          subst h1 h3
          have e : cur = arr .u8 (sha text) := by
            have hs2 : sha text = outK s 8 := by rw [outK_8, ← hs]; rfl
            rw [hs2, arr, ← htk, List.take_of_length_le (by rw [Array.length_toList, hsz]; omega)]
          rw [← e]; exact hh
      have K2 := Kept.mk hk2
      clear hk2 h8
      subst ek
      go_wp2
      go_ret
      exact ⟨M, rfl, hM2, K2.out, hN ▸ b1⟩

/-- a table holds no bytes -/
theorem tab_u8 {w : World} {t i : Nat} {x : Int} (h : Tab w t) : w.cell? ⟨t, i, none⟩ ≠ some (.int .u8 x) := by
  have key : ∀ (a b : Int) (n m : Nat), (tbl (.int .u32 a) (.int .i32 b) (.int .u32 0) n m)[i]? ≠ some (.int .u8 x) := by
    intro a b n m
    by_cases h0 : i = 0
    · subst h0; rw [tbl_0]; simp
    · by_cases h1 : i = 1
      · subst h1; rw [tbl_1]; simp
      · by_cases h2 : i = 2
        · subst h2; rw [tbl_2]; simp
        · by_cases h3 : i < 67
          · obtain ⟨j, rfl⟩ : ∃ j, i = 3 + j := ⟨i - 3, by omega⟩
            rw [tbl_word _ _ _ _ _ _ (by omega)]; simp
          · by_cases h4 : i < 75
            · obtain ⟨j, rfl⟩ : ∃ j, i = 67 + j := ⟨i - 67, by omega⟩
              rw [tbl_start _ _ _ _ _ _ (by omega)]; simp
            · have : (tbl (.int .u32 a) (.int .i32 b) (.int .u32 0) n m)[i]? = none := by
                rw [tbl, List.getElem?_toArray, List.getElem?_eq_none]
                simp [partK_len]; omega
              rw [this]; simp
  rcases h with h | h
  · rw [Blk.cell h]; exact key _ _ _ _
  · rw [Blk.cell h]; exact key _ _ _ _

theorem Rd.sl {w w' : World} {A : Option Addr} {n : Nat} {xs : List Int} {t h : Nat} (r : Rd w A n xs) (ht : Tab w t) (b : Bar [t] w w') (hh : w.heap.size ≤ h) : Sl w' A n xs h := by
  obtain ⟨h1, h2, h3⟩ := r
  refine ⟨h1, h2, ?_⟩
  by_cases h0 : n = 0
  · exact .inl h0
  · rcases h3 with h3 | ⟨bb, o, rfl, hc⟩
    · exact absurd h3 h0
    · have hlt : bb < w.heap.size := World.block_lt_of_cell? _ _ (hc 0 (by omega))
      have hne : bb ≠ t := by
        rintro rfl
        exact tab_u8 ht (hc 0 (by omega))
      exact .inr ⟨bb, o, rfl, by omega, fun i hi => by rw [← hc i hi]; exact World.cell?_of_block (w := w) (b.block bb hlt (by simpa using hne))⟩
theorem Rd.tab {w w' : World} {A : Option Addr} {n : Nat} {xs : List Int} {t : Nat} (r : Rd w A n xs) (ht : Tab w t) (b : Bar [t] w w') : Rd w' A n xs := by
  obtain ⟨h1, h2, h3⟩ := r
  refine ⟨h1, h2, ?_⟩
  by_cases h0 : n = 0
  · exact .inl h0
  · rcases h3 with h3 | ⟨bb, o, rfl, hc⟩
    · exact absurd h3 h0
    · have hlt : bb < w.heap.size := World.block_lt_of_cell? _ _ (hc 0 (by omega))
      have hne : bb ≠ t := by
        rintro rfl
        exact tab_u8 ht (hc 0 (by omega))
      exact .inr ⟨bb, o, rfl, fun i hi => by rw [← hc i hi]; exact World.cell?_of_block (w := w) (b.block bb hlt (by simpa using hne))⟩
end Go.Proofs.YtjlhnhkjgcbnnaaGreat.Sha

/-
  Two lists of bytes held against each other by the document's own Bytes; bytes in memory.
-/




namespace Go.Proofs.YtjlhnhkjgcbnnaaGreat.Sha
open Go.RowKit

theorem none_at : at_ (sha []) 0 = 227 ∧ at_ (sha []) 1 = 176 ∧ at_ (sha []) 2 = 196 ∧ at_ (sha []) 3 = 66 := by
  have h := sha_none
  have e : ∀ i, i < 4 → at_ (sha []) i = at_ ((sha []).take 4) i := fun i hi => (at_take hi).symm
  rw [e 0 (by omega), e 1 (by omega), e 2 (by omega), e 3 (by omega), h]
  exact ⟨rfl, rfl, rfl, rfl⟩
theorem abc_at : at_ (sha [97, 98, 99]) 0 = 186 ∧ at_ (sha [97, 98, 99]) 1 = 120 ∧ at_ (sha [97, 98, 99]) 2 = 22 ∧ at_ (sha [97, 98, 99]) 3 = 191 := by
  have h := sha_abc
  have e : ∀ i, i < 4 → at_ (sha [97, 98, 99]) i = at_ ((sha [97, 98, 99]).take 4) i := fun i hi => (at_take hi).symm
  rw [e 0 (by omega), e 1 (by omega), e 2 (by omega), e 3 (by omega), h]
  exact ⟨rfl, rfl, rfl, rfl⟩

theorem sha_cell {w : World} {M : Nat} {xs : List Int} {i : Nat} {v : Int} (h : Blk w M 5 (arr .u8 (sha xs))) (hi : i < 32) (hv : at_ (sha xs) i = v) : w.cell? ⟨M, i, none⟩ = some (.int .u8 v) := by
  rw [← hv]; exact h.at_ i (by rw [sha_len]; exact hi)

end Go.Proofs.YtjlhnhkjgcbnnaaGreat.Sha

/-
  What is used of package sha by all that stands on it: facts of memory that outlast a call; an argument's bytes; rows of the call's own.
-/



namespace Go.Proofs.YtjlhnhkjgcbnnaaGreat.Sha
open Go.RowKit

theorem Tab.lt {w : World} {t : Nat} (h : Tab w t) : t < w.heap.size := by
  rcases h with h | h <;> exact Blk.lt h
theorem Tab.below {w w' : World} {t B : Nat} (h : Tab w t) (b : Below B w w') (hB : t < B) : Tab w' t := by
  rcases h with h | h
  · exact .inl (Blk.below h b hB)
  · exact .inr (Blk.below h b hB)

theorem Tab.bar {w w' : World} {t : Nat} {l : List Nat} (h : Tab w t) (b : Bar l w w') (hl : t ∉ l) : Tab w' t := by
  rcases h with h | h
  · exact .inl (Blk.bar h b hl)
  · exact .inr (Blk.bar h b hl)
theorem Hs.lt {w : World} {h t : Nat} {text : List Int} (x : Hs w h t text) : h < w.heap.size := by
  obtain ⟨_, _, _, r, _, _, _, k⟩ := x
  exact k.lt
theorem Hs.bar {w w' : World} {h t : Nat} {text : List Int} {l : List Nat} (x : Hs w h t text) (b : Bar l w w') (hh : h ∉ l) (ht : t ∉ l) : Hs w' h t text := by
  obtain ⟨h1, h2, h3, r, h4, h5, h6, k⟩ := x
  exact ⟨h1, Blk.bar h2 b ht, h3, r, h4, h5, h6, k.bar b hh⟩
theorem Hs.other {w w' : World} {h t : Nat} {text : List Int} (x : Hs w h t text) (b : Bar [t] w w') (m : Made w' t) : Hs w' h t text := by
  obtain ⟨h1, h2, h3, r, h4, h5, h6, k⟩ := x
  exact ⟨h1, m, h3, r, h4, h5, h6, k.bar b (by simpa using h1)⟩
theorem Rd.sl2 {w w' : World} {A : Option Addr} {n h : Nat} {xs : List Int} (r : Rd w A n xs) (b : Below w.heap.size w w') (hh : w.heap.size ≤ h) : Sl w' A n xs h := by
  obtain ⟨h1, h2, h3⟩ := r
  refine ⟨h1, h2, ?_⟩
  by_cases h0 : n = 0
  · exact .inl h0
  · obtain ⟨bb, o, rfl, hc⟩ := h3.resolve_left h0
    have hlt : bb < w.heap.size := World.block_lt_of_cell? _ _ (hc 0 (by omega))
    exact .inr ⟨bb, o, rfl, by omega, fun i hi => by rw [← hc i hi]; exact World.cell?_of_block (w := w) (b.block bb hlt)⟩
end Go.Proofs.YtjlhnhkjgcbnnaaGreat.Sha

/-
  Package frame: sum.
-/







namespace Go.Proofs.YtjlhnhkjgcbnnaaGreat.Frame
open Go.RowKit Go.Proofs.YtjlhnhkjgcbnnaaGreat.Sha Go.Proofs.YtjlhnhkjgcbnnaaGreat.Wire

theorem rd_sl {w w' : World} {A : Option Addr} {n h : Nat} {xs : List Int} (r : Rd w A n xs) (r' : Rd w' A n xs) (hh : w.heap.size ≤ h) : Sl w' A n xs h := by
  obtain ⟨h1, h2, h3⟩ := r
  refine ⟨h1, h2, ?_⟩
  by_cases h0 : n = 0
  · exact .inl h0
  · obtain ⟨bb, o, rfl, hc⟩ := h3.resolve_left h0
    have hlt : bb < w.heap.size := World.block_lt_of_cell? _ _ (hc 0 (by omega))
    obtain ⟨b2, o2, he, hc2⟩ := r'.2.2.resolve_left h0
    injection he with he
    injection he with e1 e2
    subst e1 e2
    exact .inr ⟨bb, o, rfl, by omega, hc2⟩
def CSumPost (t : Nat) (xs : List Int) (w : World) (e : Ending) (w' : World) : Prop := ∃ M, e = .returned (.slice (some ⟨M, 0, none⟩) 8 32) ∧ w.heap.size ≤ M ∧ Rd w' (some ⟨M, 0, none⟩) 8 ((sha xs).take 8) ∧ Tab w' t ∧ Bar [t] w w'

set_option maxRecDepth 100000 in
set_option maxHeartbeats 1000000 in
theorem csum_any (t : Nat) (A B : Option Addr) (n c m d : Nat) (H Bd : List Int) (w : World) (ht : Tab w t) (rh : Rd w A n H) (rb : Rd w B m Bd) (h1 : n ≤ c) (h2 : c ≤ 9223372036854775807) (h3 : m ≤ d) (h4 : d ≤ 9223372036854775807) (hn : n ≤ 1073741824) (hm : m ≤ 1073741824) :
    Calls Tryz.prog 77 #[.pointer (some ⟨t, 0, none⟩), .slice A n c, .slice B m d] w (CSumPost t (H ++ Bd) w) := by
  obtain ⟨N, hN⟩ : ∃ N, w.heap.size = N := ⟨_, rfl⟩
  have htN : t < N := by rw [← hN]; exact ht.lt
  have RH := Kept.mk rh; have RB := Kept.mk rb; have HT := Kept.mk ht
  have hl1 := rh.1; have hl2 := rb.1
  clear rh rb ht
  go_enter Tryz.func77, Tryz.ntmps77
  go_wp2_with fail
  refine (new_any t w HT.out).mono ?_
  rintro e w1 ⟨h, rfl, hh, s1, b1⟩
  rw [hN] at hh
  have H1 := Kept.mk s1
  have RH1 := Kept.mk (rd_sl RH.out (RH.out.tab HT.out b1) (hN.symm ▸ hh))
  have RB1 := Kept.mk (RB.out.tab HT.out b1)
  have B1 := Kept.mk b1
  clear s1 b1
  go_wp2_with fail
  refine (write_any h t [] H A n c w1 H1.out RH1.out h1 h2 (by simp; omega)).mono ?_
  rintro e w2 ⟨rfl, s2, b2⟩
  rw [List.nil_append] at s2
  have H2 := Kept.mk s2
  have RB2 := Kept.mk (rd_sl RB.out (RB1.out.far b2 (RB.out.off (F := [h]) (by intro k hk; rw [List.mem_singleton] at hk; omega))) (hN.symm ▸ hh))
  have B2 := Kept.mk (B1.out.trans b2 (by intro x hx; rw [List.mem_singleton] at hx; subst hx; exact .inr (by omega)))
  clear s2 b2 H1 RH1 RB1 B1
  go_wp2_with fail
  refine (write_any h t H Bd B m d w2 H2.out RB2.out h3 h4 (by omega)).mono ?_
  rintro e w3 ⟨rfl, s3, b3⟩
  have H3 := Kept.mk s3
  have hlt : h < w3.heap.size := s3.lt
  have htl : t < w3.heap.size := Blk.lt s3.2.1
  have B3 := Kept.mk (B2.out.trans b3 (by intro x hx; rw [List.mem_singleton] at hx; subst hx; exact .inr (by omega)))
  clear s3 b3 H2 RB2 B2
  go_wp2_with fail
  refine (sum_any h t (H ++ Bd) w3 H3.out (by rw [List.length_append]; omega)).mono ?_
  rintro e w4 ⟨M, rfl, hM, k4, b4⟩
  have R4 := Kept.mk ((Rd.blk k4 (fsha_bytes _) (sha_len _)).upto (m := 8) (by omega))
  have T4 : Kept (Tab w4 t) := ⟨.inr (Blk.below H3.out.2.1 b4 htl)⟩
  have B4 := Kept.mk (B3.out.trans (barOf b4 []) (by simp))
  have hNM : N ≤ M := by have := B3.out.size; omega
  have hs := slice_h_at (some ⟨M, 0, none⟩) 32 32 8 (by omega) 8 rfl
  clear k4 b4 H3 B3
  go_wp2
  go_ret
  exact ⟨M, rfl, by omega, R4.out, T4.out, B4.out⟩
end Go.Proofs.YtjlhnhkjgcbnnaaGreat.Frame

/-
  bytes.Clone: the same bytes in new memory.
-/


namespace Go.Proofs.YtjlhnhkjgcbnnaaGreat.Sha
open Go.RowKit

def NewRow (n : Nat) (xs : List Int) (w : World) (e : Ending) (w' : World) : Prop := ∃ v, e = .returned v ∧ w'.ownsRow w.heap.size 5 1 v n (ints .u8 xs) ∧ Below w.heap.size w w'

set_option maxRecDepth 100000 in
set_option maxHeartbeats 400000 in
theorem clone_any (A : Option Addr) (n cap : Nat) (xs : List Int) (w : World) (hr : Rd w A n xs) (hn : n < 2147483648) :
    Calls Tryz.prog 39 #[.slice A n cap] w (NewRow n xs w) := by
  cases A with
  | none =>
    have h0 : n = 0 := by
      rcases hr.2.2 with h | ⟨_, _, h, _⟩
      · exact h
      · cases h
    subst h0
    obtain rfl : xs = [] := List.eq_nil_of_length_eq_zero hr.1
    clear hr
    have hq := Lib.run_eql_slice_nil (P := Tryz.prog) w 38 5 none 0 cap 0 0 Tryz.underlying38
    go_enter Tryz.func39, Tryz.ntmps39
    go_wp2
    go_ret
    exact ⟨_, rfl, World.ownsRow_nil _ _ _ _, Below.refl _ _⟩
  | some a =>
    obtain ⟨N, hN⟩ : ∃ N, w.heap.size = N := ⟨_, rfl⟩
    have HR := Kept.mk (hr.keep (l := []) ((Bar.refl [] w).alloc (.cells #[] 5)) (by simp))
    have hown := World.ownsRow_made (base := N) (e := 5) (size := 1) w #[] 0 (by omega) (by unfold maxLen; omega) rfl
    rw [hN] at hown
    have bel : Below N w (w.alloc (.cells #[] 5)) := (Below.refl _ _).alloc (by omega) _
    have Own := Kept.mk hown
    have Bel := Kept.mk bel
    clear hown bel hr
    have hq := Lib.run_eql_slice_nil (P := Tryz.prog) w 38 5 (some a) n cap 0 0 Tryz.underlying38
    go_enter Tryz.func39, Tryz.ntmps39
    go_wp2_with ((with_reducible refine sel 7 ?_); refine wpList_append_rd rfl (.tmp 5) (.tmp 6) 38 rfl N 5 Tryz.underlying38 info_u8 (.slice (some ⟨N, 0, none⟩) 0 0) 0 [] rfl Own.out (some a) n cap xs rfl HR.out (by omega) (by simp [hN]) ?_; intro v' w' ho hg)
    go_ret
    refine ⟨v', rfl, ?_, ?_⟩
    · have := ho.out
      simpa [hN] using this
    · rw [hN]; exact Bel.out.grown hg (by simp; omega) (by intro k hk; injection hk with hk; simp at hk; omega)
end Go.Proofs.YtjlhnhkjgcbnnaaGreat.Sha

/-
  (*Enc).Done.
-/




namespace Go.Proofs.YtjlhnhkjgcbnnaaGreat.Wire
open Go.RowKit Go.Proofs.YtjlhnhkjgcbnnaaGreat.Sha

set_option maxRecDepth 100000 in
set_option maxHeartbeats 1000000 in
theorem done_any (w : World) (F : List Nat) (e : Nat) (st : St) (h : En 178 w F e st) (hb : Bytes st.2) (hl : st.2.length < 2147483648) :
    Calls Tryz.prog 100 #[.pointer (some ⟨e, 0, none⟩)] w fun x w' => ∃ v, x = .returned (.tuple #[v, .int .i64 st.1]) ∧ w'.ownsRow w.heap.size 5 1 v st.2.length (ints .u8 st.2) ∧ Below w.heap.size w w' := by
  obtain ⟨v, hbk, ho, hF⟩ := h
  have c0 : w.cell? ⟨e, 0, none⟩ = some v := hbk.cell 0
  have c1 : w.cell? ⟨e, 1, none⟩ = some (.int .i64 st.1) := hbk.cell 1
  obtain ⟨A, cap, rfl, h1, h2, hr⟩ := own_rd ho hb
  have HC := Kept.mk (fun w' (r : Rd w' A st.2.length st.2) => clone_any A st.2.length cap st.2 w' r hl)
  have HR := Kept.mk hr
  have HB := Kept.mk hbk
  clear hr ho hbk
  go_enter Tryz.func100, Tryz.ntmps100
  go_wp2
  go_region_held3 (fun w' => w'.cell? ⟨e, 0, none⟩ = some (.slice A st.2.length cap) ∧ w'.cell? ⟨e, 1, none⟩ = some (.int .i64 st.1))
    (first
      | go_keep
      | exact ⟨(HB.out.drew.below hbel HB.out.lt).cell 0, (HB.out.drew.below hbel HB.out.lt).cell 1⟩)
    ((go_at_call 39; refine (HC.out w.drew HR.out.drew).mono ?_; rintro x w' ⟨u, rfl, hown, hbel⟩))
  go_wp2
  go_ret2
  exact ⟨u, rfl, hown, ⟨hbel.os, hbel.tape, hbel.output, hbel.size, hbel.block⟩⟩
end Go.Proofs.YtjlhnhkjgcbnnaaGreat.Wire

/-
  isSize.
-/



namespace Go.Proofs.YtjlhnhkjgcbnnaaGreat.Wire
open Go.RowKit Go.Proofs.YtjlhnhkjgcbnnaaGreat.Sha

set_option maxHeartbeats 400000 in
theorem issize_any (s : Int) (w : World) : Calls Tryz.prog 116 #[.int .i64 s] w fun e w' => e = .returned (.bool (decide (1 ≤ s ∧ s ≤ 8))) ∧ w = w' := by
  by_cases h1 : 1 ≤ s
  · by_cases h2 : s ≤ 8
    · have h3 : decide (1 ≤ s ∧ s ≤ 8) = true := by simp [h1, h2]
      rw [h3]
      clear h3
      go_enter Tryz.func116, Tryz.ntmps116
      go_wp2
      go_ret
      exact ⟨rfl, rfl⟩
    · have h3 : decide (1 ≤ s ∧ s ≤ 8) = false := by simp [h1, h2]
      have h4 : decide (s ≤ 8) = false := by simp [h2]
      rw [h3]
      clear h3
      go_enter Tryz.func116, Tryz.ntmps116
      go_wp2
      go_ret
      exact ⟨rfl, rfl⟩
  · have h3 : decide (1 ≤ s ∧ s ≤ 8) = false := by simp [h1]
    have h4 : decide (1 ≤ s) = false := by simp [h1]
    rw [h3]
    clear h3
    go_enter Tryz.func116, Tryz.ntmps116
    go_wp2
    go_ret
    exact ⟨rfl, rfl⟩
end Go.Proofs.YtjlhnhkjgcbnnaaGreat.Wire

/-
  goesInto.
-/



namespace Go.Proofs.YtjlhnhkjgcbnnaaGreat.Wire
open Go.RowKit Go.Proofs.YtjlhnhkjgcbnnaaGreat.Sha

set_option maxHeartbeats 400000 in
theorem goesinto_any (n s : Int) (w : World) (h1 : 1 ≤ s) (h8 : s ≤ 8) : Calls Tryz.prog 121 #[.int .i64 n, .int .i64 s] w fun e w' => e = .returned (.bool (fits n s)) ∧ w = w' := by
  by_cases h2 : 0 ≤ n
  · by_cases h3 : n ≤ 4611686018427387904
    · have hw : IntKind.i64.wrap (8 * s) = 8 * s := by rw [IntKind.wrap_i64]; omega
      have HS := Kept.mk (shr_fits n s h1 h8 h2 h3)
      go_enter Tryz.func121, Tryz.ntmps121
      go_wp2
      go_ret
      exact ⟨by rw [← HS.out]; rfl, rfl⟩
    · have hf : fits n s = false := decide_eq_false (fun hc => h3 hc.2.2.2.1)
      have h4 : decide (n ≤ 4611686018427387904) = false := by simpa using h3
      rw [hf]
      clear hf
      go_enter Tryz.func121, Tryz.ntmps121
      go_wp2
      go_ret
      exact ⟨rfl, rfl⟩
  · have hf : fits n s = false := decide_eq_false (fun hc => h2 hc.2.2.1)
    have h4 : decide (0 ≤ n) = false := by simpa using h2
    rw [hf]
    clear hf
    go_enter Tryz.func121, Tryz.ntmps121
    go_wp2
    go_ret
    exact ⟨rfl, rfl⟩
end Go.Proofs.YtjlhnhkjgcbnnaaGreat.Wire

/-
  (*Enc).fail.
-/



namespace Go.Proofs.YtjlhnhkjgcbnnaaGreat.Wire
open Go.RowKit Go.Proofs.YtjlhnhkjgcbnnaaGreat.Sha

set_option maxRecDepth 100000 in
set_option maxHeartbeats 400000 in
theorem fail_any (w : World) (F : List Nat) (e : Nat) (st : St) (err : Int) (h : En 178 w F e st) : Calls Tryz.prog 122 #[.pointer (some ⟨e, 0, none⟩), .int .i64 err] w fun x w' => x = .returned (.tuple #[]) ∧ En 178 w' [e] e (err, []) ∧ Fp F [e] w w' := by
  obtain ⟨v, h1, h2, rfl⟩ := h
  have c0 := h1.cell 0
  have c1 := h1.cell 1
  have z0 := h1.frozen 0
  have z1 := h1.frozen 1
  have H1 := Kept.mk h1
  clear h1 h2
  go_enter Tryz.func122, Tryz.ntmps122
  go_wp2
  go_end0
  exact ⟨rfl, ⟨_, (H1.out.set_ 0 _).set_ 1 _, World.ownsRow_nil _ _ _ _, rfl⟩, ((Bar.refl _ _).setCell (by simp) _).setCell (by simp) _, fun k hk => .inl (by simp at hk; simp [hk])⟩
end Go.Proofs.YtjlhnhkjgcbnnaaGreat.Wire

/-
  (*Enc).put.
-/



namespace Go.Proofs.YtjlhnhkjgcbnnaaGreat.Wire
open Go.RowKit Go.Proofs.YtjlhnhkjgcbnnaaGreat.Sha

set_option maxRecDepth 100000 in
set_option maxHeartbeats 1000000 in
theorem put_any (w : World) (F : List Nat) (e n s : Nat) (xs : List Int) (h : En 178 w F e (0, xs)) (hs : s ≤ 8) (hl : xs.length ≤ 2147483648) :
    Calls Tryz.prog 123 #[.pointer (some ⟨e, 0, none⟩), .int .i64 n, .int .i64 s] w fun x w' => x = .returned (.tuple #[]) ∧ ∃ F', En 178 w' F' e (0, xs ++ be n s) ∧ Fp F F' w w' := by
  have HE := Kept.mk h
  clear h
  go_enter Tryz.func123, Tryz.ntmps123
  go_wp2
  go_loopw [6] (fun i wr => ∃ (k : Nat) (cur : List Int) (G : List Nat), k ≤ s ∧ i = .int .i64 ((k : Int) - 1) ∧ Kept (cur ++ be n k = xs ++ be n s) ∧ Kept (En 178 wr G e (0, cur)) ∧ Kept (Fp F G w wr)) (fun i _ => (Go.RowKit.intOf i + 1).toNat)
  case atStart => exact ⟨s, xs, F, by omega, by go_num, ⟨rfl⟩, HE, ⟨Fp.refl _ _⟩⟩
  case round =>
    clear HE
    obtain ⟨k, cur, G, hk, rfl, HC, HE, HF⟩ := hrel
    by_cases h0 : k = 0
    · subst h0
      go_wp2
      go_end0
      have hc := HC.out
      simp only [be, List.append_nil] at hc
      exact ⟨rfl, G, hc ▸ HE.out, HF.out⟩
    · obtain ⟨j, rfl⟩ : ∃ j, k = j + 1 := ⟨k - 1, by omega⟩
      obtain ⟨v, hb, ho, hG⟩ := HE.out
      have c0 := hb.cell 0
      rw [show (#[v, Value.int IntKind.i64 0] : Array Value)[0]? = some v from rfl] at c0
      have z0 := hb.frozen 0
      obtain ⟨b, hbb⟩ : ∃ b : Int, ((n / 256 ^ j % 256 : Nat) : Int) = b := ⟨_, rfl⟩
      have hB := byte_is n j
      have hm : IntKind.i64.wrap (8 * (j : Int)) = 8 * j := by rw [IntKind.wrap_i64]; omega
      rw [hbb] at hB
      have hbe : be n (j + 1) = b :: be n j := by rw [be, hbb]
      have HBE := Kept.mk hbe
      have hfar := own_far ho hb (by decide)
      have hlt := hb.lt
      have hsz : cur.length ≤ xs.length + s := by
        have := congrArg List.length HC.out
        simp only [List.length_append, be_len] at this
        omega
      have HO := Kept.mk ho; have HBk := Kept.mk hb
      clear hbb hbe hb ho
      obtain ⟨iu, hi, hz0, hz1, hz2⟩ := info_parts info_u8
      go_wp2_with fail
      have T1 : (wr.alloc (Obj.cells #[Value.int IntKind.u8 b] 5)).drew.frozen? { block := e, off := 0 } = false := (HBk.out.alloc _).drew.frozen 0
      have T2 : (wr.alloc (Obj.cells #[Value.int IntKind.u8 b] 5)).drew.cell? { block := e, off := 0 } = some v := (HBk.out.alloc _).drew.cell 0
      go_region_law
        ((refine step_append_lies _ (by rfl) _ _ _ (by rfl) 0 5 iu _ 1 1 Tryz.underlying38 hi hz0 hz1 hz2 rfl (by omega) v cur.length (ints .u8 cur) (by rfl) ((HO.out.alloc _).drew)
            ⟨wr.heap.size, 0, none⟩ 1 1 [.int .u8 b] (by rfl) (by rfl) (World.news_of_block (cs := #[.int .u8 b]) (t := 5) (fr := (0, 0)) (heap_alloc_new wr _)) (by simp [Value.oneCell'])
            (by omega) (by unfold maxLen; omega) (by omega) (by simp) (wr.heap.size + 1) (by simp) ?_; intro gg cg w1 hown1 hgrow hat hlt1; have U0 := (((HBk.out.alloc (.cells #[.int .u8 b] 5)).drew.grown hgrow (Ne.symm hfar)).cell 0); have U1 := (((HBk.out.alloc (.cells #[.int .u8 b] 5)).drew.grown hgrow (Ne.symm hfar)).frozen 0)))
      all_goals
        have hst := en_store (by decide) HBk.out ((Bar.refl [] wr).alloc (.cells #[.int .u8 b] 5)).drew hgrow hfar (ys := cur ++ [b]) (by rw [ints_append]; exact hown1) (by
          rcases hat with h | h
          · exact .inl h.symm
          · exact .inr ⟨gg, rfl, by omega⟩)
        have HST := Kept.mk hst
        clear hst hgrow hown1 U0 U1 T1 T2
        subst hG
        go_wp2
        go_roundw
        case rel =>
          refine ⟨j, cur ++ [b], _, by omega, by go_num, ⟨?_⟩, ⟨HST.out.1⟩, ⟨HF.out.trans HST.out.2⟩⟩
          have := HC.out
          rw [HBE.out] at this
          rw [List.append_assoc]
          exact this
        case measure => simp [Go.RowKit.intOf]
end Go.Proofs.YtjlhnhkjgcbnnaaGreat.Wire

/-
  (*Enc).Num.
-/






namespace Go.Proofs.YtjlhnhkjgcbnnaaGreat.Wire
open Go.RowKit Go.Proofs.YtjlhnhkjgcbnnaaGreat.Sha

set_option maxRecDepth 100000 in
set_option maxHeartbeats 1000000 in
theorem num_any (w : World) (F : List Nat) (e : Nat) (n s : Int) (st : St) (h : En 178 w F e st) (hl : st.2.length ≤ 2147483648) :
    Calls Tryz.prog 99 #[.pointer (some ⟨e, 0, none⟩), .int .i64 n, .int .i64 s] w fun x w' => x = .returned (.tuple #[]) ∧ ∃ F', En 178 w' F' e (encNum st n s) ∧ Fp F F' w w' := by
  obtain ⟨err, xs⟩ := st
  have HE := Kept.mk h
  have c1 : w.cell? ⟨e, 1, none⟩ = some (.int .i64 err) := by obtain ⟨v, hb, _⟩ := h; exact hb.cell 1
  clear h
  by_cases he : err = 0
  · subst he
    by_cases hs : 1 ≤ s ∧ s ≤ 8
    · have ci := Kept.mk fun w => issize_any s w
      rw [decide_eq_true hs] at ci
      cases hf : fits n s with
      | true =>
        have hg := Kept.mk fun w => goesinto_any n s w hs.1 hs.2
        rw [hf] at hg
        have h0 : 0 ≤ n := (fits_be hf).2.2.2.2
        have HR := Kept.mk (show encNum (0, xs) n s = (0, xs ++ be n.toNat s.toNat) by unfold encNum; simp [hf])
        have hp := Kept.mk (put_any w F e n.toNat s.toNat xs HE.out (by omega) hl)
        rw [Int.toNat_of_nonneg h0, Int.toNat_of_nonneg (show 0 ≤ s by omega)] at hp
        clear hf HE
        go_enter Tryz.func99, Tryz.ntmps99
        go_wp2_with (first
          | (go_at_call 116; refine (ci.out _).mono ?_; rintro x w' ⟨rfl, rfl⟩)
          | (go_at_call 121; refine (hg.out _).mono ?_; rintro x w' ⟨rfl, rfl⟩))
        refine hp.out.mono ?_
        rintro x w' ⟨rfl, F', h1, h2⟩
        rw [← HR.out] at h1
        have H1 := Kept.mk h1; have H2 := Kept.mk h2
        clear h1 h2
        go_wp2
        (first | go_end0 | ((try simp only [Exit.inBlock, Exit.then]); refine bodyPost_ret (results_none rfl _ _ _) rfl ?_))
        exact ⟨rfl, F', H1.out, H2.out⟩
      | false =>
        have hg := Kept.mk fun w => goesinto_any n s w hs.1 hs.2
        rw [hf] at hg
        have HR := Kept.mk (show encNum (0, xs) n s = (1, []) by unfold encNum; simp [hf])
        have hp := Kept.mk (fail_any w F e (0, xs) 1 HE.out)
        clear hf HE
        go_enter Tryz.func99, Tryz.ntmps99
        go_wp2_with (first
          | (go_at_call 116; refine (ci.out _).mono ?_; rintro x w' ⟨rfl, rfl⟩)
          | (go_at_call 121; refine (hg.out _).mono ?_; rintro x w' ⟨rfl, rfl⟩))
        refine hp.out.mono ?_
        rintro x w' ⟨rfl, h1, h2⟩
        rw [← HR.out] at h1
        have H1 := Kept.mk h1; have H2 := Kept.mk h2
        clear h1 h2
        go_wp2
        (first | go_end0 | ((try simp only [Exit.inBlock, Exit.then]); refine bodyPost_ret (results_none rfl _ _ _) rfl ?_))
        exact ⟨rfl, _, H1.out, H2.out⟩
    · have ci := Kept.mk fun w => issize_any s w
      rw [decide_eq_false hs] at ci
      have hf : fits n s = false := decide_eq_false (fun hc => hs ⟨hc.1, hc.2.1⟩)
      have HR := Kept.mk (show encNum (0, xs) n s = (1, []) by unfold encNum; simp [hf])
      have hp := Kept.mk (fail_any w F e (0, xs) 1 HE.out)
      clear hf HE
      go_enter Tryz.func99, Tryz.ntmps99
      go_wp2_with (go_at_call 116; refine (ci.out _).mono ?_; rintro x w' ⟨rfl, rfl⟩)
      refine hp.out.mono ?_
      rintro x w' ⟨rfl, h1, h2⟩
      rw [← HR.out] at h1
      have H1 := Kept.mk h1; have H2 := Kept.mk h2
      clear h1 h2
      go_wp2
      (first | go_end0 | ((try simp only [Exit.inBlock, Exit.then]); refine bodyPost_ret (results_none rfl _ _ _) rfl ?_))
      exact ⟨rfl, _, H1.out, H2.out⟩
  · have HR := Kept.mk (show encNum (err, xs) n s = (err, xs) by unfold encNum; simp [he])
    have he2 : (err != 0) = true := by simpa using he
    go_enter Tryz.func99, Tryz.ntmps99
    go_wp2
    (first | go_end0 | ((try simp only [Exit.inBlock, Exit.then]); refine bodyPost_ret (results_none rfl _ _ _) rfl ?_))
    rw [HR.out]
    exact ⟨rfl, F, HE.out, Fp.refl _ _⟩
end Go.Proofs.YtjlhnhkjgcbnnaaGreat.Wire

/-
  NewEnc.
-/



namespace Go.Proofs.YtjlhnhkjgcbnnaaGreat.Wire
open Go.RowKit Go.Proofs.YtjlhnhkjgcbnnaaGreat.Sha

set_option maxHeartbeats 400000 in
theorem newenc_any (w : World) : Calls Tryz.prog 98 #[] w fun x w' => x = .returned (.pointer (some ⟨w.heap.size, 0, none⟩)) ∧ En 178 w' [w.heap.size] w.heap.size (0, []) ∧ Fp [] [w.heap.size] w w' := by
  have h1 : En 178 (w.alloc (.cells #[.slice none 0 0, .int .i64 0] 178)) [w.heap.size] w.heap.size (0, []) := ⟨_, Blk.new _ _ _, World.ownsRow_nil _ _ _ _, rfl⟩
  have h2 : Fp [] [w.heap.size] w (w.alloc (.cells #[.slice none 0 0, .int .i64 0] 178)) := ⟨(Bar.refl _ _).alloc _, fun k hk => by simp at hk; omega⟩
  have H1 := Kept.mk h1; have H2 := Kept.mk h2
  clear h1 h2
  go_enter Tryz.func98, Tryz.ntmps98
  go_wp2
  go_ret
  exact ⟨rfl, H1.out, H2.out⟩
end Go.Proofs.YtjlhnhkjgcbnnaaGreat.Wire

/-
  Package frame: writeHead.
-/





namespace Go.Proofs.YtjlhnhkjgcbnnaaGreat.Frame
open Go.RowKit Go.Proofs.YtjlhnhkjgcbnnaaGreat.Sha Go.Proofs.YtjlhnhkjgcbnnaaGreat.Wire

/-- a beginning, as package wire writes it -/
def hst (f : FV) : St := encNum (encNum (encNum (encNum (encNum (encNum (0, []) 25446 2) f.kind 1) 0 1) f.gen 4) f.seq 4) f.body.length 4
theorem enc_err (e : Int) (h : e ≠ 0) (xs : List Int) (n s : Int) : encNum (e, xs) n s = (e, xs) := by unfold encNum; rw [if_neg h]
theorem enc_no {n s : Int} (h : fits n s = false) (xs : List Int) : encNum (0, xs) n s = (1, []) := by unfold encNum; simp [h]
theorem enc_yes {n s : Int} (h : fits n s = true) (xs : List Int) : encNum (0, xs) n s = (0, xs ++ be n.toNat s.toNat) := by unfold encNum; simp [h]
theorem be_two : be (Int.toNat 25446) (Int.toNat 2) = [99, 102] := by decide +kernel
theorem hst_is (f : FV) (hn : f.body.length ≤ 60000) : hst f = if errF f = 0 then (0, headF f) else (1, []) := by
  have hl : fits (f.body.length : Int) 4 = true := fits_four (by omega)
  unfold hst
  rw [enc_yes (by decide), be_two]
  have he : errF f = if fits f.kind 1 = true ∧ fits f.gen 4 = true ∧ fits f.seq 4 = true then 0 else 1 := by unfold errF; rw [if_neg (by omega)]
  cases f1 : fits f.kind 1 with
  | false =>
    rw [enc_no f1, enc_err 1 (by omega), enc_err 1 (by omega), enc_err 1 (by omega), enc_err 1 (by omega), if_neg (by rw [he, f1]; simp)]
  | true =>
    rw [enc_yes f1, enc_yes (by decide)]
    cases f2 : fits f.gen 4 with
    | false => rw [enc_no f2, enc_err 1 (by omega), enc_err 1 (by omega), if_neg (by rw [he, f2]; simp)]
    | true =>
      rw [enc_yes f2]
      cases f3 : fits f.seq 4 with
      | false => rw [enc_no f3, enc_err 1 (by omega), if_neg (by rw [he, f3]; simp)]
      | true =>
        rw [enc_yes f3, enc_yes hl, if_pos (by rw [he, f1, f2, f3]; simp)]
        rfl
theorem errF_two (f : FV) (hn : f.body.length ≤ 60000) : errF f = 0 ∨ errF f = 1 := by
  unfold errF; rw [if_neg (by omega)]; split <;> simp

/-- an Enc at block e while a beginning is made; the frame lies boxed in block N -/
def Hx (w0 : World) (N e : Nat) (cs : Array Value) (st : St) (w : World) : Prop :=
  ∃ F, En 178 w F e st ∧ Blk w N 56 cs ∧ Below w0.heap.size w0 w ∧ ∀ k ∈ F, w0.heap.size + 1 ≤ k
theorem Hx.blk {w0 : World} {N e : Nat} {cs : Array Value} {st : St} {w : World} (h : Hx w0 N e cs st w) : Blk w N 56 cs := h.choose_spec.2.1
theorem Hx.bel {w0 : World} {N e : Nat} {cs : Array Value} {st : St} {w : World} (h : Hx w0 N e cs st w) : Below w0.heap.size w0 w := h.choose_spec.2.2.1
theorem hx_num {w0 : World} {N e : Nat} {cs : Array Value} {st : St} {w : World} (hN : N = w0.heap.size) (h : Hx w0 N e cs st w) (x s : Int) (hl : st.2.length ≤ 2147483648) :
    Calls Tryz.prog 99 #[.pointer (some ⟨e, 0, none⟩), .int .i64 x, .int .i64 s] w fun r w' => r = .returned (.tuple #[]) ∧ Hx w0 N e cs (encNum st x s) w' := by
  obtain ⟨F, h1, h2, h4, h5⟩ := h
  refine (num_any w F e x s st h1 hl).mono ?_
  rintro r w' ⟨rfl, F', h6, hf⟩
  have hs : w0.heap.size + 1 ≤ w.heap.size := by have := h2.lt; omega
  have b : Below w0.heap.size w0 w' := h4.trans (hf.below (fun k hk => by have := h5 k hk; omega) (by omega))
  exact ⟨rfl, F', h6, h2.bar hf.1 (fun hk => by have := h5 _ hk; omega), b, hf.least h5 hs⟩

def HeadPost (st : St) (w : World) (x : Ending) (w' : World) : Prop := ∃ v, x = .returned (.tuple #[v, .int .i64 st.1]) ∧ w'.ownsRow w.heap.size 5 1 v st.2.length (ints .u8 st.2) ∧ Below w.heap.size w w'

set_option maxRecDepth 100000 in
set_option maxHeartbeats 1000000 in
theorem chead_any (f : FV) (A : Option Addr) (n cap : Nat) (w : World) (hlen : f.body.length = n) (hn : n ≤ 60000) :
    Calls Tryz.prog 79 #[.agg #[.int .i64 f.kind, .int .i64 f.gen, .int .i64 f.seq, .slice A n cap]] w (HeadPost (hst f) w) := by
  obtain ⟨N, hN⟩ : ∃ N, w.heap.size = N := ⟨_, rfl⟩
  have B0 := (Blk.new_at w 56 #[.int .i64 f.kind, .int .i64 f.gen, .int .i64 f.seq, .slice A n cap] N hN.symm)
  have b0 : Below N w (w.alloc (.cells #[.int .i64 f.kind, .int .i64 f.gen, .int .i64 f.seq, .slice A n cap] 56)) := (Below.refl _ _).alloc (by omega) _
  have hs0 : (w.alloc (.cells #[.int .i64 f.kind, .int .i64 f.gen, .int .i64 f.seq, .slice A n cap] 56)).heap.size = N + 1 := by simp [hN]
  have HB0 := Kept.mk B0; have Hb0 := Kept.mk b0
  clear B0 b0
  go_enter Tryz.func79, Tryz.ntmps79
  go_wp2_with fail
  generalize w.alloc (.cells #[.int .i64 f.kind, .int .i64 f.gen, .int .i64 f.seq, .slice A n cap] 56) = w1 at *
  have c1 := newenc_any w1
  rw [hs0] at c1
  refine c1.mono ?_
  clear c1
  rintro x w2 ⟨rfl, e2, f2⟩
  have T2 : Hx w N (N + 1) #[.int .i64 f.kind, .int .i64 f.gen, .int .i64 f.seq, .slice A n cap] (0, []) w2 :=
    ⟨[N + 1], e2, HB0.out.bar f2.1 (by simp), by rw [hN]; exact Hb0.out.trans (f2.below (by simp) (by omega)), by simp [hN]⟩
  clear e2 f2 HB0 Hb0 hs0
  go_wp2_with fail
  refine (hx_num hN.symm T2 25446 2 (by simp)).mono ?_
  rintro x w3 ⟨rfl, T3⟩
  obtain ⟨s3, e3⟩ : ∃ s, encNum (0, []) 25446 2 = s := ⟨_, rfl⟩
  have l3 : s3.2.length ≤ 8 := by have := encNum_len (0, []) 25446 2; rw [e3] at this; simp only [List.length_nil] at this; omega
  rw [e3] at T3
  have E3 := Kept.mk e3
  have t3 := T3.blk.cell 0
  clear T2 e3
  go_wp2_with fail
  refine (hx_num hN.symm T3 f.kind 1 (by omega)).mono ?_
  rintro x w4 ⟨rfl, T4⟩
  obtain ⟨s4, e4⟩ : ∃ s, encNum s3 f.kind 1 = s := ⟨_, rfl⟩
  have l4 : s4.2.length ≤ 16 := by have := encNum_len s3 f.kind 1; rw [e4] at this; omega
  rw [e4] at T4
  have E4 := Kept.mk e4
  clear T3 e4 t3
  go_wp2_with fail
  refine (hx_num hN.symm T4 0 1 (by omega)).mono ?_
  rintro x w5 ⟨rfl, T5⟩
  obtain ⟨s5, e5⟩ : ∃ s, encNum s4 0 1 = s := ⟨_, rfl⟩
  have l5 : s5.2.length ≤ 24 := by have := encNum_len s4 0 1; rw [e5] at this; omega
  rw [e5] at T5
  have E5 := Kept.mk e5
  have t5 := T5.blk.cell 1
  clear T4 e5
  go_wp2_with fail
  refine (hx_num hN.symm T5 f.gen 4 (by omega)).mono ?_
  rintro x w6 ⟨rfl, T6⟩
  obtain ⟨s6, e6⟩ : ∃ s, encNum s5 f.gen 4 = s := ⟨_, rfl⟩
  have l6 : s6.2.length ≤ 32 := by have := encNum_len s5 f.gen 4; rw [e6] at this; omega
  rw [e6] at T6
  have E6 := Kept.mk e6
  have t6 := T6.blk.cell 2
  clear T5 e6 t5
  go_wp2_with fail
  refine (hx_num hN.symm T6 f.seq 4 (by omega)).mono ?_
  rintro x w7 ⟨rfl, T7⟩
  obtain ⟨s7, e7⟩ : ∃ s, encNum s6 f.seq 4 = s := ⟨_, rfl⟩
  have l7 : s7.2.length ≤ 40 := by have := encNum_len s6 f.seq 4; rw [e7] at this; omega
  rw [e7] at T7
  have E7 := Kept.mk e7
  have t7 := T7.blk.cell 3
  clear T6 e7 t6
  go_wp2_with fail
  refine (hx_num hN.symm T7 n 4 (by omega)).mono ?_
  rintro x w8 ⟨rfl, T8⟩
  obtain ⟨s8, e8⟩ : ∃ s, encNum s7 n 4 = s := ⟨_, rfl⟩
  have l8 : s8.2.length ≤ 48 := by have := encNum_len s7 n 4; rw [e8] at this; omega
  rw [e8] at T8
  have E8 := Kept.mk e8
  clear T7 e8 t7
  have hst8 : hst f = s8 := by rw [← E8.out, ← E7.out, ← E6.out, ← E5.out, ← E4.out, ← E3.out, ← hlen]; rfl
  have hb8 : Bytes s8.2 := by
    rw [← hst8, hst_is f (by omega)]
    split
    · exact headF_bytes f
    · intro x hx; simp at hx
  have T8k := Kept.mk T8
  have hb := T8.bel
  rw [hN] at hb
  have HB := Kept.mk hb
  have HS := Kept.mk hst8
  clear T8 hb l3 l4 l5 l6 l7 E3 E4 E5 E6 E7 E8 hst8
  obtain ⟨F, e8, -⟩ := T8k.out
  have E8 := Kept.mk e8
  have H8 := Kept.mk hb8
  clear e8 T8k hb8
  go_wp2_with fail
  refine (done_any w8 F (N + 1) s8 E8.out H8.out (by omega)).mono ?_
  rintro x w9 ⟨v, rfl, o9, b9⟩
  have hs8 : N ≤ w8.heap.size := by rw [← hN]; exact HB.out.size
  have O9 := Kept.mk (Go.Joins.ownsRow_le (base' := N) o9 hs8)
  have B9 := Kept.mk (HB.out.trans (b9.mono hs8))
  obtain ⟨A9, c9, rfl⟩ := own_shape o9
  clear o9 b9
  go_wp2
  go_ret2
  unfold HeadPost
  rw [HS.out, hN]
  exact ⟨_, rfl, O9.out, B9.out⟩
end Go.Proofs.YtjlhnhkjgcbnnaaGreat.Frame

/-
  make([]byte, n), and with a capacity of its own, of any size that is not too great. For any seat with bytes.
-/

namespace Go.Proofs.YtjlhnhkjgcbnnaaGreat.Sha
open Go.RowKit

theorem make_big (w : World) (n : Nat) (hn : n ≤ 16777216) : ∃ w', (Instr.makeSlice 38 (.int .i64 (n : Int)) (.int .i64 (n : Int))).run Tryz.prog w = .ok (.slice (some ⟨w.heap.size, 0, none⟩) n n) w' ∧ Blk w' w.heap.size 5 (arr .u8 (List.replicate n 0)) ∧ Below w.heap.size w w' := by
  obtain ⟨iu, hi, hz0, hz1, hz2⟩ := info_parts info_u8
  obtain ⟨w', hm, own, gr⟩ := run_makeSlice_full (P := Tryz.prog) w w.heap.size 38 5 iu _ 1 Tryz.underlying38 hi hz0 hz1 .i64 .i64 n (by omega) (by rw [hz2]; omega) (by unfold maxLen; omega) (Nat.le_refl _)
  refine ⟨w', hm, ?_, ⟨gr.os, gr.tape, gr.output, gr.size, fun k hk => gr.block k hk (by simp)⟩⟩
  have e : (madeCells (Value.int .u8 0).cells (n * 1)).toList = ints .u8 (List.replicate n 0) := by
    rw [show (Value.int .u8 0).cells = #[.int .u8 0] from rfl, toList_madeCells_one, Nat.mul_one]
    simp [ints]
  rw [e] at own
  rcases own.2 with ⟨h0, -⟩ | ⟨g, cap, cur, hv, -, hh, h1, -, hs, ht⟩
  · cases h0
  · have hv2 : w.heap.size = g ∧ n = cap := by
      have := hv
      simp only [Value.slice.injEq, Option.some.injEq, Addr.mk.injEq] at this
      omega
    obtain ⟨hg, rfl⟩ := hv2
    rw [hg]
    have : cur = arr .u8 (List.replicate n 0) := by
      apply Array.toList_inj.1
      rw [List.take_of_length_le (by simp; omega)] at ht
      rw [ht]
      rfl
    rw [← this]
    exact hh
theorem rd_srcs {w : World} {A : Option Addr} {n : Nat} {xs : List Int} (r : Rd w A n xs) : 0 < (ints .u8 xs).length → ∃ ad, A = some ad ∧ ∀ j v, (ints .u8 xs)[j]? = some v → w.cell? (ad.add j) = some v := by
  intro hp
  obtain ⟨h1, h2, h3⟩ := r
  rw [ints_len] at hp
  rcases h3 with h3 | ⟨b, o, rfl, hc⟩
  · omega
  · refine ⟨_, rfl, fun j v hj => ?_⟩
    have hjl : j < xs.length := by
      have := (List.getElem?_eq_some_iff.1 hj).1
      rwa [ints_len] at this
    rw [Sha.ints_at _ _ _ hjl] at hj
    rw [← hj, show (⟨b, o, none⟩ : Addr).add j = ⟨b, o + j, none⟩ by cases j <;> simp [Addr.add]]
    exact hc j (by omega)
theorem splice_ints (k : IntKind) (l m : List Int) (o : Nat) : splice (ints k l) o (ints k m) = ints k (splice l o m) := by
  simp [splice, ints, List.map_take, List.map_drop]
end Go.Proofs.YtjlhnhkjgcbnnaaGreat.Sha

/-
  Package frame: lay.
-/







namespace Go.Proofs.YtjlhnhkjgcbnnaaGreat.Frame
open Go.RowKit Go.Proofs.YtjlhnhkjgcbnnaaGreat.Sha Go.Proofs.YtjlhnhkjgcbnnaaGreat.Wire

/-- a sector of a text -/
def row1 (b : List Int) (i : Nat) : List Int := mk i :: ((padF b).drop (63 * i)).take 63
/-- m sectors laid, of S -/
def layM (b : List Int) (S m : Nat) : List Int := cat (row1 b) m ++ List.replicate (64 * (S - m)) 0
theorem row1_len (b : List Int) (i : Nat) (h : i < secs b.length) : (row1 b i).length = 64 := by
  unfold row1; rw [List.length_cons, List.length_take, List.length_drop, padF_len]; omega
theorem layM_len (b : List Int) {S m : Nat} (hS : secs b.length = S) (h : m ≤ S) : (layM b S m).length = 64 * S := by
  unfold layM; rw [List.length_append, List.length_replicate, cat_len (c := 64) m (fun j hj => row1_len b j (by omega))]; omega
theorem layM_all (b : List Int) {S : Nat} (hS : secs b.length = S) : layM b S S = laid b := by
  unfold layM; rw [Nat.sub_self, Nat.mul_zero, List.replicate_zero, List.append_nil, laid_is, hS]; rfl
theorem layM_zero (b : List Int) (S : Nat) : layM b S 0 = List.replicate (64 * S) 0 := by unfold layM; simp [cat]
theorem layM_step (b : List Int) {S m : Nat} (hS : secs b.length = S) (h : m < S) : splice ((layM b S m).set (64 * m) (mk m)) (64 * m + 1) ((b.drop (63 * m)).take 63) = layM b S (m + 1) := by
  have hC : (cat (row1 b) m).length = 64 * m := cat_len (c := 64) m (fun j hj => row1_len b j (by omega))
  have h63 : 63 * m < b.length := by unfold secs at hS; omega
  have hxs : ((b.drop (63 * m)).take 63).length = min 63 (b.length - 63 * m) := by rw [List.length_take, List.length_drop]
  obtain ⟨xs, hx⟩ : ∃ xs, (b.drop (63 * m)).take 63 = xs := ⟨_, rfl⟩
  have hrow : row1 b m = mk m :: (xs ++ List.replicate (63 - xs.length) 0) := by
    unfold row1 padF
    congr 1
    rw [hS, List.drop_append_of_le_length (by omega), List.take_append, hx, List.take_replicate, List.length_drop]
    rw [hx] at hxs
    congr 2
    unfold secs at hS
    omega
  rw [hx] at hxs ⊢
  unfold layM
  rw [show 64 * (S - m) = (64 * (S - (m + 1)) + 63) + 1 by omega, List.replicate_succ, List.set_append_right _ _ (by omega), hC, Nat.sub_self, List.set_cons_zero]
  unfold splice
  rw [cat, hrow]
  generalize cat (row1 b) m = C at *
  have e1 : (C ++ mk m :: List.replicate (64 * (S - (m + 1)) + 63) 0).take (64 * m + 1) = C ++ [mk m] := by
    rw [List.take_append, List.take_of_length_le (by omega), hC, show 64 * m + 1 - 64 * m = 1 by omega]; rfl
  have e2 : (C ++ mk m :: List.replicate (64 * (S - (m + 1)) + 63) 0).drop (64 * m + 1 + xs.length) = List.replicate (63 - xs.length) 0 ++ List.replicate (64 * (S - (m + 1))) 0 := by
    rw [List.drop_append, List.drop_of_length_le (by omega), List.nil_append, hC, show 64 * m + 1 + xs.length - 64 * m = xs.length + 1 by omega, List.drop_succ_cons, List.drop_replicate, List.replicate_append_replicate]
    congr 1
    omega
  rw [e1, e2]
  simp

def LayPost (b : List Int) (w : World) (e : Ending) (w' : World) : Prop := ∃ M n, e = .returned (.slice (some ⟨M, 0, none⟩) n n) ∧ n = 64 * secs b.length ∧ w.heap.size ≤ M ∧ Rd w' (some ⟨M, 0, none⟩) n (laid b) ∧ Below w.heap.size w w'

set_option maxRecDepth 100000 in
set_option maxHeartbeats 1000000 in
theorem lay_any (A : Option Addr) (n c S : Nat) (b : List Int) (w : World) (hr : Rd w A n b) (hc : n ≤ c) (hn : n ≤ 100000) (hS : secs b.length = S) :
    Calls Tryz.prog 81 #[.slice A n c, .int .i64 S] w (LayPost b w) := by
  obtain ⟨N, hN⟩ : ∃ N, w.heap.size = N := ⟨_, rfl⟩
  have hlen := hr.1
  have hS9 : S ≤ 2000 := by unfold secs at hS; omega
  have HR := Kept.mk hr
  have HS := Kept.mk hS
  obtain ⟨w1, hmk, k1, b1⟩ := make_big w (64 * S) (by omega)
  rw [hN] at k1 b1 hmk
  have hW : wrap64 ((S : Int) * 64) = (S : Int) * 64 := by unfold wrap64; omega
  rw [show ((64 * S : Nat) : Int) = (S : Int) * 64 by omega] at hmk
  rw [← layM_zero b S] at k1
  have K1 := Kept.mk k1; have B1 := Kept.mk b1
  have hl1 : N < w1.heap.size := k1.lt
  clear hr hS k1 b1
  go_enter Tryz.func81, Tryz.ntmps81
  go_wp2
  go_loopw [6, 7, 12] (fun _i _s j wr => ∃ m : Nat, m ≤ S ∧ j = .int .i64 m ∧ Kept (Blk wr N 5 (arr .u8 (layM b S m))) ∧ Kept (Below N w wr)) (fun _ _ j _ => S - (Go.RowKit.intOf j).toNat)
  case atStart => exact ⟨0, by omega, rfl, K1, B1⟩
  case round =>
    clear K1 B1 hmk hl1
    obtain ⟨m, hm, rfl, K, B⟩ := hrel
    by_cases hmS : m < S
    · have hmS' : (m : Int) < S := by omega
      have c1 := Kept.mk (sector_any N 0 (64 * S) (64 * S) m wr (by omega) (Nat.le_refl _) (by omega))
      have c2 := Kept.mk (mark_any m wr)
      have hll := layM_len b HS.out (show m ≤ S by omega)
      have x0 := K.out.at_ (64 * m) (by omega)
      have z0 := K.out.frozen (64 * m)
      go_wp2_with fail
      refine c1.out.mono ?_
      rintro e w' ⟨rfl, rfl⟩
      rw [Nat.zero_add]
      clear c1
      go_wp2_with fail
      refine c2.out.mono ?_
      rintro e w' ⟨rfl, rfl⟩
      clear c2
      have hb2 : Bar [N] wr (wr.setCell ⟨N, 64 * m, none⟩ (.int .u8 (mk m))) := (Bar.refl _ _).setCell (by simp) _
      have k2 := K.out.set_ (64 * m) (.int .u8 (mk m))
      rw [arr_set] at k2
      have B2 := Kept.mk (B.out.trans (hb2.below (by rw [← hN]; exact B.out.size) (by simp)))
      have R2 : Kept (Rd (wr.setCell ⟨N, 64 * m, none⟩ (.int .u8 (mk m))) A n b) := ⟨HR.out.below (by rw [hN]; exact B2.out)⟩
      have K2 := Kept.mk k2
      clear hb2 k2
      go_upto_region 7 with (fail)
      clear x0 z0 K B
      generalize wr.setCell ⟨N, 64 * m, none⟩ (.int .u8 (mk m)) = w2 at *
      have h63 : 63 * m ≤ n := by have := HS.out; unfold secs at this; omega
      obtain ⟨A3, hs3, r3, -⟩ := slice_l R2.out hc (63 * m) h63 ((m : Int) * 63) (by omega)
      have hs4 := slice_l_at N (64 * m) 64 (64 * S - 64 * m) 1 (by omega) (by omega) 1 rfl
      have W3 : IntKind.i64.wrap ((m : Int) * 63) = (m : Int) * 63 := by simp only [IntKind.wrap_i64]; omega
      have R3 := Kept.mk (r3.upto (m := min 63 (n - 63 * m)) (by omega))
      clear r3
      refine wp_region_still_tail 6 (by kernel_rfl) (by kernel_rfl) ?_
      simp only [List.take_succ_cons, List.take_zero, List.drop_succ_cons, List.drop_zero]
      repeat still_step
      refine wpStill_nil ?_
      change wpList _ _ _ _ _ w2.drew
      have hxl : ((b.drop (63 * m)).take (min 63 (n - 63 * m))) = (b.drop (63 * m)).take 63 := by
        rcases Nat.le_total 63 (n - 63 * m) with h | h
        · rw [Nat.min_eq_left h]
        · rw [Nat.min_eq_right h, List.take_of_length_le (by rw [List.length_drop]; omega), List.take_of_length_le (by rw [List.length_drop]; omega)]
      rw [hxl] at R3
      have hxl2 : ((b.drop (63 * m)).take 63).length = min 63 (n - 63 * m) := by rw [List.length_take, List.length_drop, hlen]
      have HX := Kept.mk hxl2
      have hst := layM_step b HS.out hmS
      have HSt := Kept.mk hst
      have hll2 : ((layM b S m).set (64 * m) (mk m)).length = 64 * S := by rw [List.length_set]; exact hll
      clear hxl hxl2 hst hs3 hs4 W3 hll
      generalize (b.drop (63 * m)).take 63 = xs at *
      generalize (layM b S m).set (64 * m) (mk m) = row at *
      refine wpList_copy_bar rfl (.tmp 23) (.tmp 27) 38 38 rfl 5 Tryz.underlying38 (by kernel_rfl) _ _ _ _ _ _ rfl rfl N (64 * m + 1) (ints .u8 row) 5 K2.out (ints .u8 xs) (by rw [ints_len, HX.out]; exact Nat.min_comm _ _) (fun h0 => ⟨rfl, rd_srcs R3.out.drew h0⟩) (by rw [ints_len, ints_len, HX.out, hll2]; omega) (ints_one _ _) ?_
      intro w3 HG HB
      have K3 : Kept (Blk w3 N 5 (arr .u8 (layM b S (m + 1)))) := ⟨by
        have := HG.out
        rw [splice_ints, HSt.out] at this
        exact this⟩
      have B3 := Kept.mk (B2.out.drew.trans (HB.below (by rw [← hN]; exact B2.out.size) (by simp)))
      clear HG HB K2 B2 R2 R3 HX HSt hll2
      go_wp2
      go_roundw
      case rel => exact ⟨m + 1, by omega, by go_num, K3, B3⟩
      case measure => simp [Go.RowKit.intOf]; omega
    · obtain rfl : m = S := by omega
      have hmS' : ¬ (m : Int) < m := by omega
      have hl := layM_all b HS.out
      rw [hl] at K
      have hbl := laid_len b
      have R := Kept.mk (Rd.blk K.out (laid_bytes b HR.out.2.1) (by rw [hbl, HS.out]))
      clear hl hbl
      go_wp2
      go_ret
      exact ⟨N, 64 * m, rfl, by rw [HS.out], by omega, R.out, by rw [hN]; exact B.out⟩
end Go.Proofs.YtjlhnhkjgcbnnaaGreat.Frame

/-
  A row of rows of bytes that came in.
-/

namespace Go.Proofs.YtjlhnhkjgcbnnaaGreat.Sha
open Go.RowKit

/-- n rows of bytes in memory, to be read: row r holds X r -/
def Rws (w : World) (A : Option Addr) (n : Nat) (X : Nat → List Int) : Prop :=
  n = 0 ∨ ∃ b o, A = some ⟨b, o, none⟩ ∧ ∀ r, r < n → ∃ a l c, w.cell? ⟨b, o + r, none⟩ = some (.slice a l c) ∧ l ≤ c ∧ c ≤ 9223372036854775807 ∧ Rd w a l (X r)
theorem Rws.below {w w' : World} {A : Option Addr} {n : Nat} {X : Nat → List Int} (h : Rws w A n X) (b : Below w.heap.size w w') : Rws w' A n X := by
  refine h.imp id ?_
  rintro ⟨bb, o, rfl, hc⟩
  refine ⟨bb, o, rfl, fun r hr => ?_⟩
  obtain ⟨a, l, c, h1, h2, h3, h4⟩ := hc r hr
  exact ⟨a, l, c, by rw [b.cell (World.block_lt_of_cell? _ _ h1)]; exact h1, h2, h3, h4.below b⟩
/-- an argument's rows -/
theorem rws_of_row {W : World} {a : Option Addr} {len cap : Nat} (h : (a = none ∧ len = 0 ∧ cap = 0) ∨ ∃ (x : Addr) (A : Nat → Option Addr) (L C : Nat → Nat) (Z : Nat → List Int), a = some x ∧ len ≤ cap ∧ cap ≤ maxLen ∧ ∀ r, r < cap → W.cell? (x.add r) = some (.slice (A r) (L r) (C r)) ∧ L r ≤ C r ∧ C r ≤ maxLen ∧ (Z r).length = C r ∧ (∀ n ∈ Z r, (Lit.int .u8 n).wf = true) ∧ (A r = none → C r = 0) ∧ ∀ a' : Addr, A r = some a' → 0 ≤ a'.block ∧ ∀ c, c < C r → W.cell? (a'.add c) = some (.int .u8 ((Z r).getD c 0))) :
    ∃ X, Rws W a len X := by
  rcases h with ⟨rfl, rfl, rfl⟩ | ⟨x, A, L, C, Z, rfl, hl, hm, hr⟩
  · exact ⟨fun _ => [], .inl rfl⟩
  · refine ⟨fun r => (Z r).take (L r), ?_⟩
    by_cases h0 : len = 0
    · exact .inl h0
    · refine .inr ?_
      obtain ⟨b, off, spot⟩ := x
      have hspot : spot = none := by
        have hc := (hr 0 (by omega)).1
        simpa [Addr.add] using World.cell?_spot hc
      subst hspot
      refine ⟨b, off, rfl, fun r hrl => ?_⟩
      obtain ⟨h1, h2, h3, h4, h5, h6, h7⟩ := hr r (by omega)
      have e : (⟨b, off, none⟩ : Addr).add r = ⟨b, off + r, none⟩ := by cases r <;> simp [Addr.add]
      rw [e] at h1
      refine ⟨A r, L r, C r, h1, h2, by unfold maxLen at h3; omega, ?_⟩
      refine rd_of_row (cap := C r) ?_
      cases hA : A r with
      | none =>
        have hC := h6 hA
        have hZ : Z r = [] := List.eq_nil_of_length_eq_zero (by omega)
        exact .inl ⟨rfl, by omega, hC, hZ⟩
      | some a' =>
        exact .inr ⟨a', rfl, h2, h3, h4, fun i hi => (h7 a' hA).2 i (by omega), h5⟩
end Go.Proofs.YtjlhnhkjgcbnnaaGreat.Sha

/-
  slices.Grow, slices.Concat of rows of bytes.
-/



namespace Go.Proofs.YtjlhnhkjgcbnnaaGreat.Sha
open Go.RowKit

def GrowPost (w : World) (e : Ending) (w' : World) : Prop := ∃ v, e = .returned v ∧ w'.ownsRow w.heap.size 5 1 v 0 [] ∧ Below w.heap.size w w'

set_option maxRecDepth 100000 in
set_option maxHeartbeats 1000000 in
theorem grow_any (n : Nat) (w : World) (hn : n ≤ 1073741824) :
    Calls Tryz.prog 101 #[.slice none 0 0, .int .i64 n] w (GrowPost w) := by
  by_cases h0 : n = 0
  · subst h0
    go_enter Tryz.func101, Tryz.ntmps101
    go_wp2
    go_ret
    exact ⟨_, rfl, World.ownsRow_nil _ _ _ _, Below.refl _ _⟩
  · have hp : 0 < (n : Int) := by omega
    obtain ⟨iu, hi, hz0, hz1, hz2⟩ := info_parts info_u8
    have hg := Kept.mk fun (w : World) ty => Lib.run_append_nil_zeros (P := Tryz.prog) w 38 3 ty 5 iu (.int .u8 0) .i64 .i64 Tryz.underlying38 Tryz.underlying3 hi hz0 n (by omega) (by omega) (by omega) (by rw [hz2]; omega)
    go_enter Tryz.func101, Tryz.ntmps101
    have hc1 := grownCap_ge w n 0 5
    have hc2 := grownCap_le_maxLen w n 0 5 (by unfold maxLen; omega)
    obtain ⟨c, hc⟩ : ∃ c, grownCap w n 0 5 = c := ⟨_, rfl⟩
    rw [hc] at hc1 hc2
    have hr := Kept.mk (hg.out w 38)
    rw [hc] at hr
    have hsz : (Builtin.zeroCells (Value.int IntKind.u8 0).cells n ++ Builtin.zeroCells (Value.int IntKind.u8 0).cells (c - n)).size = c := by
      rw [Array.size_append, size_zeroCells, size_zeroCells]; simp [Value.cells]; omega
    have ho := World.ownsRow_made (base := w.heap.size) (e := 5) (size := 1) w.drew (Builtin.zeroCells (Value.int IntKind.u8 0).cells n ++ Builtin.zeroCells (Value.int IntKind.u8 0).cells (c - n)) c (Nat.le_refl _) hc2 (by rw [hsz, Nat.mul_one])
    have hb : Below w.heap.size w (w.drew.alloc (.cells (Builtin.zeroCells (Value.int IntKind.u8 0).cells n ++ Builtin.zeroCells (Value.int IntKind.u8 0).cells (c - n)) 5)) := (Below.refl _ _).drew.alloc (Nat.le_refl _) _
    have HO := Kept.mk ho
    have HB := Kept.mk hb
    clear hg hc ho hb hsz hi hz0 hz1 hz2
    generalize w.drew.alloc (.cells (Builtin.zeroCells (Value.int IntKind.u8 0).cells n ++ Builtin.zeroCells (Value.int IntKind.u8 0).cells (c - n)) 5) = w2 at *
    go_wp2_with ((with_reducible refine sel 22 ?_); refine Lib.wpList_append_run _ rfl (.tmp 20) (.tmp 21) 38 3 rfl _ _ rfl rfl _ _ hr.out ?_)
    go_ret
    exact ⟨_, rfl, HO.out, HB.out⟩
theorem cat_mono (X : Nat → List Int) {k n : Nat} (h : k ≤ n) : (cat X k).length ≤ (cat X n).length := by
  induction n with
  | zero => obtain rfl : k = 0 := by omega
            exact Nat.le_refl _
  | succ n ih =>
    by_cases hk : k = n + 1
    · subst hk; exact Nat.le_refl _
    · rw [cat, List.length_append]; have := ih (by omega); omega
def ConcatPost (xs : List Int) (w : World) (e : Ending) (w' : World) : Prop := ∃ v, e = .returned v ∧ w'.ownsRow w.heap.size 5 1 v xs.length (ints .u8 xs) ∧ Below w.heap.size w w'

set_option maxRecDepth 100000 in
set_option maxHeartbeats 1000000 in
theorem concat_any (A : Option Addr) (n cap : Nat) (X : Nat → List Int) (w : World) (hr : Rws w A n X) (hn : n ≤ 1073741824) (hL : (cat X n).length ≤ 1073741824) :
    Calls Tryz.prog 80 #[.slice A n cap] w (ConcatPost (cat X n) w) := by
  have HR := Kept.mk hr
  have HM := Kept.mk fun k (hk : k ≤ n) => cat_mono X hk
  have HL := Kept.mk hL
  have PE : Kept (∀ v w', w'.ownsRow w.heap.size 5 1 v (cat X n).length (ints .u8 (cat X n)) → Below w.heap.size w w' → ConcatPost (cat X n) w (.returned v) w') := ⟨fun v w' h1 h2 => ⟨v, rfl, h1, h2⟩⟩
  clear hr hL
  go_enter Tryz.func80, Tryz.ntmps80
  go_wp2
  go_loopw [3, 5, 11] (fun s _s i wr => ∃ k : Nat, k ≤ n ∧ i = .int .i64 k ∧ s = .int .i64 ((cat X k).length : Nat) ∧ w = wr) (fun _ _ i _ => n - (Go.RowKit.intOf i).toNat)
  case atStart => exact ⟨0, by omega, rfl, rfl, rfl⟩
  case round =>
    obtain ⟨k, hk, rfl, rfl, rfl⟩ := hrel
    by_cases hkn : k < n
    · have hkn' : (k : Int) < n := by omega
      obtain ⟨bb, oo, rfl, hc⟩ := HR.out.resolve_left (by omega)
      obtain ⟨a, l, c, h1, h2, h3, h4⟩ := hc k hkn
      have hlen := HM.out (k + 1) (by omega)
      have hl4 := h4.1
      have hL := HL.out
      have hcat : (cat X (k + 1)).length = (cat X k).length + l := by rw [cat, List.length_append, hl4]
      have HC := Kept.mk hcat
      obtain ⟨z, hz⟩ : ∃ z, (cat X k).length = z := ⟨_, rfl⟩
      rw [hcat, hz] at hlen
      rw [hz] at HC ⊢
      have hz9 : z + l ≤ 1073741824 := by omega
      have hW : wrap64 ((z : Int) + l) = z + l := by unfold wrap64; omega
      have hneg : ¬ ((z : Int) + l < 0) := by omega
      clear hc h4 hl4 hcat hlen hL hz
      go_wp2
      go_roundw
      case rel => exact ⟨k + 1, by omega, by go_num, by rw [HC.out]; go_num, trivial⟩
      case measure => simp [Go.RowKit.intOf]; omega
    · obtain rfl : k = n := by omega
      have hkn' : ¬ (k : Int) < k := by omega
      obtain ⟨N, hN⟩ : ∃ N, w.heap.size = N := ⟨_, rfl⟩
      go_wp2_with fail
      refine (grow_any (cat X k).length w HL.out).mono ?_
      rintro e w1 ⟨v, rfl, o1, b1⟩
      rw [hN] at PE o1 b1
      have O1 := Kept.mk o1; have B1 := Kept.mk b1
      clear o1 b1
      go_wp2
      go_loopw [6, 8, 27] (fun v _s i wr => ∃ (j : Nat) (u : Value), j ≤ k ∧ u = v ∧ i = .int .i64 j ∧ Kept (wr.ownsRow N 5 1 u (cat X j).length (ints .u8 (cat X j))) ∧ Kept (Below N w wr)) (fun _ _ i _ => k - (Go.RowKit.intOf i).toNat)
      case atStart => exact ⟨0, v, by omega, rfl, rfl, O1, B1⟩
      case round =>
        clear O1 B1
        obtain ⟨j, u, hj, rfl, rfl, O, B⟩ := hrel
        by_cases hjk : j < k
        · have hjk' : (j : Int) < k := by omega
          obtain ⟨bb, oo, rfl, hc⟩ := HR.out.resolve_left (by omega)
          obtain ⟨a, l, c, h1, h2, h3, h4⟩ := hc j hjk
          have x0 : wr.cell? ⟨bb, oo + j, none⟩ = some (.slice a l c) := (B.out.cell (p := ⟨bb, oo + j, none⟩) (by rw [← hN]; exact World.block_lt_of_cell? _ _ h1)).trans h1
          have R4 := Kept.mk (h4.below (hN.symm ▸ B.out))
          have hlen := HM.out (j + 1) (by omega)
          have hl4 := h4.1
          have hL := HL.out
          have hcat : cat X (j + 1) = cat X j ++ X j := rfl
          have hcl : (cat X (j + 1)).length = (cat X j).length + l := by rw [hcat, List.length_append, hl4]
          have HC := Kept.mk (And.intro hcat hcl)
          rw [hcl] at hlen
          obtain ⟨z, hz⟩ : ∃ z, (cat X j).length = z := ⟨_, rfl⟩
          rw [hz] at hlen HC O
          have hz9 : z + l ≤ 1073741824 := by omega
          clear hc h1 h4 hl4 hcat hcl hL hlen
          go_wp2_with ((with_reducible refine sel 33 ?_); refine wpList_append_rd rfl (.tmp 31) (.tmp 32) 38 rfl N 5 Tryz.underlying38 info_u8 u z _ rfl O.out a l c (X j) rfl R4.out (by omega) (by rw [← hN]; exact B.out.size) ?_; intro v7 w7 o7 g7; have B7 := Kept.mk (B.out.trans (own_below O.out g7 (by rw [← hN]; exact B.out.size))); rw [← ints_append, ← HC.out.1, ← HC.out.2] at o7; clear g7)
          go_roundw
          case rel => exact ⟨j + 1, _, by omega, rfl, by go_num, o7, B7⟩
          case measure => simp [Go.RowKit.intOf]; omega
        · obtain rfl : j = k := by omega
          have hkn' : ¬ (j : Int) < j := by omega
          have PF := Kept.mk (PE.out _ _ O.out B.out)
          clear PE
          go_wp2
          go_ret
          exact PF.out
end Go.Proofs.YtjlhnhkjgcbnnaaGreat.Sha

/-
  Package frame: Put.
-/





namespace Go.Proofs.YtjlhnhkjgcbnnaaGreat.Frame
open Go.RowKit Go.Proofs.YtjlhnhkjgcbnnaaGreat.Sha Go.Proofs.YtjlhnhkjgcbnnaaGreat.Wire

/-- what Put lays behind one another -/
def text3 (f : FV) (i : Nat) : List Int := if i = 0 then headF f else if i = 1 then (sha (headF f ++ f.body)).take 8 else f.body
theorem text3_is (f : FV) : cat (text3 f) 3 = textF f := by unfold textF; simp [cat, text3]
theorem rws3 {w : World} {g : Nat} {T : TypeId} {f : FV} {A0 A1 A2 : Option Addr} {n0 n1 n2 c0 c1 c2 : Nat} (h : Blk w g T #[.slice A0 n0 c0, .slice A1 n1 c1, .slice A2 n2 c2])
    (h0 : n0 ≤ c0) (h1 : n1 ≤ c1) (h2 : n2 ≤ c2) (k0 : c0 ≤ 9223372036854775807) (k1 : c1 ≤ 9223372036854775807) (k2 : c2 ≤ 9223372036854775807)
    (r0 : Rd w A0 n0 (headF f)) (r1 : Rd w A1 n1 ((sha (headF f ++ f.body)).take 8)) (r2 : Rd w A2 n2 f.body) : Rws w (some ⟨g, 0, none⟩) 3 (text3 f) := by
  refine .inr ⟨g, 0, rfl, fun r hr => ?_⟩
  rw [Nat.zero_add, h.cell]
  match r, hr with
  | 0, _ => exact ⟨A0, n0, c0, rfl, h0, k0, r0⟩
  | 1, _ => exact ⟨A1, n1, c1, rfl, h1, k1, r1⟩
  | 2, _ => exact ⟨A2, n2, c2, rfl, h2, k2, r2⟩

set_option maxRecDepth 100000 in
set_option maxHeartbeats 1000000 in
theorem cput_any (w : World) (t : Nat) (f : FV) (A : Option Addr) (n c : Nat) (ht : Tab w t) (hr : Rd w A n f.body) (hc : n ≤ c) (hcm : c ≤ maxLen) :
    Calls Tryz.prog 60 #[.pointer (some ⟨t, 0, none⟩), frv f A n c] w (PutPost t f w) := by
  obtain ⟨N, hN⟩ : ∃ N, w.heap.size = N := ⟨_, rfl⟩
  have htN : t < N := by rw [← hN]; exact ht.lt
  have hlen := hr.1
  have HBY := Kept.mk hr.2.1
  have hc63 : c ≤ 9223372036854775807 := by unfold maxLen at hcm; omega
  have F1 := Blk.new_at w 56 #[.int .i64 f.kind, .int .i64 f.gen, .int .i64 f.seq, .slice A n c] N hN.symm
  have b1 : Below N w (w.alloc (.cells #[.int .i64 f.kind, .int .i64 f.gen, .int .i64 f.seq, .slice A n c] 56)) := (Below.refl _ _).alloc (by omega) _
  have hs1 : (w.alloc (.cells #[.int .i64 f.kind, .int .i64 f.gen, .int .i64 f.seq, .slice A n c] 56)).heap.size = N + 1 := by simp [hN]
  have HR1 : Kept (Rd (w.alloc (.cells #[.int .i64 f.kind, .int .i64 f.gen, .int .i64 f.seq, .slice A n c] 56)) A n f.body) := ⟨hr.below (by rw [hN]; exact b1)⟩
  have HT1 : Kept (Tab (w.alloc (.cells #[.int .i64 f.kind, .int .i64 f.gen, .int .i64 f.seq, .slice A n c] 56)) t) := ⟨ht.below b1 (by omega)⟩
  have HF1 := Kept.mk F1; have B1 := Kept.mk b1
  have f13 := F1.cell 3
  have f10 := F1.cell 0; have f11 := F1.cell 1; have f12 := F1.cell 2
  unfold frv
  by_cases hbig : 60000 < n
  · have he : errF f = 3 := by unfold errF; rw [if_pos (by omega)]
    have hbig' : 60000 < (n : Int) := by omega
    have PF : Kept (∀ w', Tab w' t → Below N w w' → PutPost t f w (.returned (.tuple #[.slice none 0 0, .int .i64 3])) w') := ⟨fun w' h1 h2 => ⟨none, 0, 0, by simp only [putF, he], Nat.le_refl _, by unfold maxLen; omega, by simp only [putF, he]; exact Rd.nil_, fun F _ => .inl rfl, h1, barOf (hN.symm ▸ h2) _⟩⟩
    have PG := Kept.mk (PF.out _ HT1.out B1.out)
    clear F1 b1 hs1 ht hr hcm PF
    go_enter Tryz.func60, Tryz.ntmps60
    go_wp2
    go_ret2
    exact PG.out
  · have hbig' : ¬ 60000 < (n : Int) := by omega
    have he2 := errF_two f (by omega)
    have c1 := Kept.mk (chead_any f A n c (w.alloc (.cells #[.int .i64 f.kind, .int .i64 f.gen, .int .i64 f.seq, .slice A n c] 56)) hlen (by omega))
    rw [hst_is f (by omega)] at c1
    clear F1 b1 ht hr hcm
    go_enter Tryz.func60, Tryz.ntmps60
    go_wp2_with fail
    refine c1.out.mono ?_
    clear c1
    generalize w.alloc (.cells #[.int .i64 f.kind, .int .i64 f.gen, .int .i64 f.seq, .slice A n c] 56) = w1 at *
    rintro x w2 ⟨v, rfl, o2, b2⟩
    rw [hs1] at o2 b2
    have F2 := HF1.out.below b2 (by omega)
    have HT2 := Kept.mk (HT1.out.below b2 (by omega))
    have HR2 := Kept.mk (HR1.out.below (by rw [hs1]; exact b2))
    have B2 := Kept.mk (B1.out.trans (b2.mono (by omega)))
    clear f10 f11 f12 f13 HF1 HR1 HT1 B1
    have f23 : w2.cell? ⟨N, 3, none⟩ = some (.slice A n c) := F2.cell 3
    rcases he2 with he | he
    · rw [if_pos he] at o2 ⊢
      obtain ⟨Av, cv, rfl, k1, k2, k3⟩ := own_rd o2 (headF_bytes f)
      have HH2 := Kept.mk k3
      rw [headF_len] at k1 HH2 ⊢
      have hN2 : N + 1 ≤ w2.heap.size := by rw [← hs1]; exact b2.size
      have HF2 := Kept.mk F2
      clear o2 b2 F2 k3
      go_upto_region 6 with (fail)
      refine wp_region_noPanic ?_
      refine wp_region_held_drew (S := fun w' : World => w'.cell? ⟨N, 3, none⟩ = some (.slice A n c)) (by kernel_rfl) f23 (fun _ => ?_)
      have F3 : Kept (Blk w2.drew N 56 #[.int .i64 f.kind, .int .i64 f.gen, .int .i64 f.seq, .slice A n c]) := ⟨HF2.out.drew⟩
      have HT3 : Kept (Tab w2.drew t) := ⟨HT2.out.below (Below.refl _ _).drew (by have := HT2.out.lt; omega)⟩
      have HR3 : Kept (Rd w2.drew A n f.body) := ⟨HR2.out.drew⟩
      have HH3 : Kept (Rd w2.drew Av 16 (headF f)) := ⟨HH2.out.drew⟩
      have B3 : Kept (Below N w w2.drew) := ⟨B2.out.drew⟩
      have hN3 : N + 1 ≤ w2.drew.heap.size := hN2
      clear HF2 HT2 HR2 HH2 B2 f23 hN2
      generalize w2.drew = w3 at *
      refine wpAnyH_take (i := 0) (oi := ?o1) (v := ?v1) ?hi1 (by kernel_rfl) (by kernel_rfl) (by kernel_rfl) ?hq1 (Or.inl ⟨?hw1, ?hy1⟩) (by assumption) ?r1
      case hi1 => (simp only [List.getElem?_toArray, List.getElem?_cons_zero]; exact rfl)
      case hq1 => exact fun _ _ _ h => h
      case hw1 => rfl
      case hy1 => (intro w hSw; (try dsimp only at hSw); go_simp; try exact rfl)
      simp only [Act.put, List.setIfInBounds_toArray, List.set_cons_zero, List.set_cons_succ]
      refine wpAnyH_take (i := 1) (oi := ?o2) (v := ?v2) ?hi2 (by kernel_rfl) (by kernel_rfl) (by kernel_rfl) ?hq2 (Or.inl ⟨?hw2, ?hy2⟩) (by assumption) ?r2
      case hi2 => (simp only [List.getElem?_toArray, List.getElem?_cons_succ, List.getElem?_cons_zero]; exact rfl)
      case hq2 => exact fun _ _ _ h => h
      case hw2 => rfl
      case hy2 => (intro w hSw; (try dsimp only at hSw); go_simp; try exact rfl)
      simp only [Act.put, List.setIfInBounds_toArray, List.set_cons_zero, List.set_cons_succ]
      refine wpAnyH_take (i := 2) (oi := ?o3) (v := ?v3) ?hi3 (by kernel_rfl) (by kernel_rfl) (by kernel_rfl) ?hq3 (Or.inl ⟨?hw3, ?hy3⟩) (by assumption) ?r3
      case hi3 => (simp only [List.getElem?_toArray, List.getElem?_cons_succ, List.getElem?_cons_zero]; exact rfl)
      case hq3 => exact fun _ _ _ h => h
      case hw3 => rfl
      case hy3 => (intro w hSw; (try dsimp only at hSw); go_simp; try exact rfl)
      simp only [Act.put, List.setIfInBounds_toArray, List.set_cons_zero, List.set_cons_succ]
      refine wpAnyH_take (i := 3) (oi := ?o4) (v := ?v4) ?hi4 (by kernel_rfl) (by kernel_rfl) (by kernel_rfl) ?hq4 (Or.inl ⟨?hw4, ?hy4⟩) (by assumption) ?r4
      case hi4 => (simp only [List.getElem?_toArray, List.getElem?_cons_succ, List.getElem?_cons_zero]; exact rfl)
      case hq4 => exact fun _ _ _ h => h
      case hw4 => rfl
      case hy4 => (intro w hSw; (try dsimp only at hSw); go_simp; try exact rfl)
      simp only [Act.put, List.setIfInBounds_toArray, List.set_cons_zero, List.set_cons_succ]
      refine wpAnyH_take (i := 4) (oi := ?o5) (v := ?v5) ?hi5 (by kernel_rfl) (by kernel_rfl) (by kernel_rfl) ?hq5 (Or.inl ⟨?hw5, ?hy5⟩) (by assumption) ?r5
      case hi5 => (simp only [List.getElem?_toArray, List.getElem?_cons_succ, List.getElem?_cons_zero]; exact rfl)
      case hq5 => exact fun _ _ _ h => h
      case hw5 => rfl
      case hy5 => (intro w hSw; (try dsimp only at hSw); go_simp; try exact rfl)
      simp only [Act.put, List.setIfInBounds_toArray, List.set_cons_zero, List.set_cons_succ]
      refine wpAnyH_take (i := 6) (oi := ?o6) (v := ?v6) ?hi6 (by kernel_rfl) (by kernel_rfl) (by kernel_rfl) ?hq6 (Or.inl ⟨?hw6, ?hy6⟩) (by assumption) ?r6
      case hi6 => (simp only [List.getElem?_toArray, List.getElem?_cons_succ, List.getElem?_cons_zero]; exact rfl)
      case hq6 => exact fun _ _ _ h => h
      case hw6 => rfl
      case hy6 => (intro w hSw; (try dsimp only at hSw); go_simp; try exact rfl)
      simp only [Act.put, List.setIfInBounds_toArray, List.set_cons_zero, List.set_cons_succ]
      refine wpAnyH_take (i := 7) (oi := ?o7) (v := ?v7) ?hi7 (by kernel_rfl) (by kernel_rfl) (by kernel_rfl) ?hq7 (Or.inl ⟨?hw7, ?hy7⟩) (by assumption) ?r7
      case hi7 => (simp only [List.getElem?_toArray, List.getElem?_cons_succ, List.getElem?_cons_zero]; exact rfl)
      case hq7 => exact fun _ _ _ h => h
      case hw7 => rfl
      case hy7 => (intro w hSw; (try dsimp only at hSw); go_simp; try exact rfl)
      simp only [Act.put, List.setIfInBounds_toArray, List.set_cons_zero, List.set_cons_succ]
      refine wpAnyH_ready (rs := [5]) (by kernel_rfl) (by simp) ?_
      refine AllReadyH.cons (o := ?o9) ?hi9 (fun K hK => ?_) AllReadyH.nil
      case hi9 => (simp only [List.getElem?_toArray, List.getElem?_cons_succ, List.getElem?_cons_zero]; exact rfl)
      go_simp
      go_at_call 77
      refine (csum_any t Av A 16 cv n c (headF f) f.body w3 HT3.out HH3.out HR3.out k1 k2 hc hc63 (by omega) (by omega)).mono ?_
      rintro x w4 ⟨M, rfl, hM, r4, t4, b4⟩
      have HR4 := Kept.mk (HR3.out.tab HT3.out b4)
      have HH4 := Kept.mk (HH3.out.tab HT3.out b4)
      have F4 := Kept.mk (F3.out.bar b4 (by rw [List.mem_singleton]; omega))
      have B4 : Kept (Bar [t] w w4) := ⟨(barOf (hN.symm ▸ B3.out) [t]).trans b4 (by simp)⟩
      have hN4 : N + 1 ≤ w4.heap.size := by have := b4.size; omega
      have R4 := Kept.mk r4; have T4 := Kept.mk t4
      refine hK.out _ _ (F4.out.cell 3) (fun _ => ?_)
      clear hK K HR3 HH3 F3 B3 HT3 r4 t4 b4
      try simp only [Act.put, List.setIfInBounds_toArray, List.set_cons_zero, List.set_cons_succ]
      refine wpAnyH_ready (rs := [8]) (by kernel_rfl) (by simp) ?_
      refine AllReadyH.cons (o := ?o10) ?hi10 (fun K hK => ?_) AllReadyH.nil
      case hi10 => (simp only [List.getElem?_toArray, List.getElem?_cons_succ, List.getElem?_cons_zero]; exact rfl)
      go_simp
      have q5 : Bar [] w4 (w4.alloc (.cells #[.slice Av 16 cv, .slice (some ⟨M, 0, none⟩) 8 32, .slice A n c] 38)) := (Bar.refl _ _).alloc _
      have W5 := Kept.mk (rws3 (f := f) (Blk.new w4 38 #[.slice Av 16 cv, .slice (some ⟨M, 0, none⟩) 8 32, .slice A n c]) k1 (by omega) hc k2 (by omega) hc63 (HH4.out.keep q5 (by simp)) (R4.out.keep q5 (by simp)) (HR4.out.keep q5 (by simp)))
      have F5 := Kept.mk (F4.out.bar q5 (by simp))
      have T5 := Kept.mk (T4.out.bar q5 (by simp))
      have B5 := Kept.mk (B4.out.trans q5 (by simp))
      have hN5 : N + 1 ≤ (w4.alloc (.cells #[.slice Av 16 cv, .slice (some ⟨M, 0, none⟩) 8 32, .slice A n c] 38)).heap.size := by have := q5.size; omega
      refine hK.out _ _ (F5.out.cell 3) (fun _ => ?_)
      clear hK K HH4 HR4 R4 F4 T4 B4 q5
      try simp only [Act.put, List.setIfInBounds_toArray, List.set_cons_zero, List.set_cons_succ]
      generalize w4.alloc (.cells #[.slice Av 16 cv, .slice (some ⟨M, 0, none⟩) 8 32, .slice A n c] 38) = w5 at *
      generalize w4.heap.size = gB at *
      refine wpAnyH_ready (rs := [9]) (by kernel_rfl) (by simp) ?_
      refine AllReadyH.cons (o := ?o11) ?hi11 (fun K hK => ?_) AllReadyH.nil
      case hi11 => (simp only [List.getElem?_toArray, List.getElem?_cons_succ, List.getElem?_cons_zero]; exact rfl)
      go_simp
      go_at_call 80
      have hL : (textF f).length = 24 + n := by rw [textF_len, hlen]
      refine (concat_any (some ⟨gB, 0, none⟩) 3 3 (text3 f) w5 W5.out (by omega) (by rw [text3_is, hL]; omega)).mono ?_
      rw [text3_is]
      rintro x w6 ⟨v6, rfl, o6, b6⟩
      obtain ⟨A6, c6, rfl, h61, h62, r6⟩ := own_rd o6 (textF_bytes f HBY.out)
      rw [hL] at r6 h61 ⊢
      have R6 := Kept.mk r6
      have F6 := Kept.mk (F5.out.below b6 (by omega))
      have T6 := Kept.mk (T5.out.below b6 (by omega))
      have B6 := Kept.mk (B5.out.trans (barOf b6 []) (by simp))
      have hN6 : N + 1 ≤ w6.heap.size := by have := b6.size; omega
      refine hK.out _ _ (F6.out.cell 3) (fun _ => ?_)
      clear hK K W5 F5 T5 B5 o6 b6 r6
      try simp only [Act.put, List.setIfInBounds_toArray, List.set_cons_zero, List.set_cons_succ]
      refine wpAnyH_take (i := 10) (oi := ?o8) (v := ?v8) ?hi8 (by kernel_rfl) (by kernel_rfl) (by kernel_rfl) ?hq8 (Or.inl ⟨?hw8, ?hy8⟩) (by assumption) ?r8
      case hi8 => (simp only [List.getElem?_toArray, List.getElem?_cons_succ, List.getElem?_cons_zero]; exact rfl)
      case hq8 => exact fun _ _ _ h => h
      case hw8 => rfl
      case hy8 => (intro w hSw; (try dsimp only at hSw); go_simp; try exact rfl)
      simp only [Act.put, List.setIfInBounds_toArray, List.set_cons_zero, List.set_cons_succ]
      refine wpAnyH_done (by kernel_rfl) ?_ _
      refine NoPanic.normal ?_
      have f63 : w6.cell? ⟨N, 3, none⟩ = some (.slice A n c) := F6.out.cell 3
      have hsec : sectorsF (n : Int) = ((secs (textF f).length : Nat) : Int) := by
        unfold sectorsF secs
        rw [if_neg (by omega), hL]
        omega
      have cs := Kept.mk (csectors_any n w6)
      rw [hsec] at cs
      have cl := Kept.mk (lay_any A6 (24 + n) c6 _ (textF f) w6 R6.out h61 (by omega) rfl)
      have HSZ := Kept.mk (laid_len (textF f))
      have hS9 : secs (textF f).length ≤ 2000 := by unfold secs; omega
      generalize secs (textF f).length = S at *
      clear F6 R6 hsec
      go_wp2_with fail
      refine cs.out.mono ?_
      rintro x w7 ⟨rfl, rfl⟩
      clear cs
      go_wp2_with fail
      refine cl.out.mono ?_
      clear cl
      rintro x w7 ⟨M7, n7, rfl, hn7, hM7, r7, b7⟩
      have T7 := Kept.mk (T6.out.below b7 (by omega))
      have B7 := Kept.mk (B6.out.trans (barOf b7 []) (by simp))
      have PG : Kept (PutPost t f w (.returned (.tuple #[.slice (some ⟨M7, 0, none⟩) n7 n7, .int .i64 0])) w7) := ⟨by
        refine ⟨some ⟨M7, 0, none⟩, n7, n7, by simp only [putF, he], Nat.le_refl _, ?_, by simp only [putF]; rw [if_pos he]; exact r7, fun F hF => .inr ⟨M7, 0, rfl, fun hk => by have := hF _ hk; omega⟩, T7.out, B7.out⟩
        have := r7.1
        rw [HSZ.out] at this
        unfold maxLen; omega⟩
      clear r7 b7 T6 B6 T7 B7 hn7 HSZ
      go_wp2
      go_ret2
      exact PG.out
    · have he0 : errF f ≠ 0 := by omega
      rw [if_neg he0] at o2 ⊢
      obtain ⟨Av, cv, rfl⟩ := own_shape o2
      have PG : Kept (PutPost t f w (.returned (.tuple #[.slice none 0 0, .int .i64 1])) w2) := ⟨none, 0, 0, by simp only [putF, he], Nat.le_refl _, by unfold maxLen; omega, by simp only [putF]; rw [if_neg he0]; exact Rd.nil_, fun F _ => .inl rfl, HT2.out, barOf (hN.symm ▸ B2.out) _⟩
      clear o2 b2 F2 HT2 HR2 B2 f23
      go_wp2
      go_ret2
      exact PG.out
end Go.Proofs.YtjlhnhkjgcbnnaaGreat.Frame

/-
  A row of bytes of the call's own, written cell by cell. For any seat.
-/

namespace Go.Proofs.YtjlhnhkjgcbnnaaGreat.Sha
open Go.RowKit

/-- the first n cells of block g hold the bytes xs, and may be written -/
def Wr (w : World) (g : Nat) (T : TypeId) (n : Nat) (xs : List Int) : Prop := xs.length = n ∧ Bytes xs ∧ ∃ cs, Blk w g T cs ∧ ∀ i, i < n → cs[i]? = some (.int .u8 (at_ xs i))
theorem Wr.rd {w : World} {g n : Nat} {T : TypeId} {xs : List Int} (h : Wr w g T n xs) : Rd w (some ⟨g, 0, none⟩) n xs := by
  obtain ⟨h1, h2, cs, h3, h4⟩ := h
  exact ⟨h1, h2, .inr ⟨g, 0, rfl, fun i hi => by rw [Nat.zero_add, h3.cell]; exact h4 i hi⟩⟩
theorem Wr.lt {w : World} {g n : Nat} {T : TypeId} {xs : List Int} (h : Wr w g T n xs) : g < w.heap.size := by
  obtain ⟨-, -, cs, h3, -⟩ := h
  exact h3.lt
theorem Wr.bar {w w' : World} {g n : Nat} {T : TypeId} {xs : List Int} {l : List Nat} (h : Wr w g T n xs) (b : Bar l w w') (hg : g ∉ l) : Wr w' g T n xs := by
  obtain ⟨h1, h2, cs, h3, h4⟩ := h
  exact ⟨h1, h2, cs, h3.bar b hg, h4⟩
theorem Wr.cell {w : World} {g n : Nat} {T : TypeId} {xs : List Int} (h : Wr w g T n xs) (i : Nat) (hi : i < n) : w.cell? ⟨g, i, none⟩ = some (.int .u8 (at_ xs i)) := by
  obtain ⟨-, -, cs, h3, h4⟩ := h
  rw [h3.cell]; exact h4 i hi
theorem Wr.frozen {w : World} {g n : Nat} {T : TypeId} {xs : List Int} (h : Wr w g T n xs) (i : Nat) : w.frozen? ⟨g, i, none⟩ = false := by
  obtain ⟨-, -, cs, h3, -⟩ := h
  exact h3.frozen i
theorem Wr.set {w : World} {g n : Nat} {T : TypeId} {xs : List Int} (h : Wr w g T n xs) (i : Nat) (x : Int) (hx : 0 ≤ x ∧ x ≤ 255) : Wr (w.setCell ⟨g, i, none⟩ (.int .u8 x)) g T n (xs.set i x) := by
  obtain ⟨h1, h2, cs, h3, h4⟩ := h
  refine ⟨by simpa using h1, fun y hy => ?_, _, h3.set_ i _, fun j hj => ?_⟩
  · rcases List.mem_or_eq_of_mem_set hy with h | h
    · exact h2 y h
    · rw [h]; exact hx
  · have hc := h4 j hj
    have hjs : j < cs.size := (Array.getElem?_eq_some_iff.1 hc).1
    rw [Array.getElem?_setIfInBounds, at_set _ _ _ _ (by omega)]
    by_cases hij : i = j
    · subst hij; simp [hjs]
    · rw [if_neg hij, if_neg hij]; exact hc
theorem wr_of_own {w : World} {base : Nat} {T : TypeId} {v : Value} {n : Nat} {xs : List Int} (h : w.ownsRow base T 1 v n (ints .u8 xs)) (hb : Bytes xs) (hn : 1 ≤ n) : ∃ g c, v = .slice (some ⟨g, 0, none⟩) n c ∧ base ≤ g ∧ n ≤ c ∧ c ≤ 9223372036854775807 ∧ Wr w g T n xs := by
  have hl : xs.length = n := by have := h.1; rw [ints_len] at this; omega
  rcases h.2 with ⟨-, h0⟩ | ⟨g, cap, cur, rfl, hg, hh, h1, h2, -, h4⟩
  · omega
  · unfold maxLen at h2
    refine ⟨g, cap, rfl, hg, h1, by omega, hl, hb, cur, hh, fun i hi => ?_⟩
    have e : cur.toList.take n = ints .u8 xs := by simpa using h4
    have e2 : (cur.toList.take n)[i]? = (ints .u8 xs)[i]? := by rw [e]
    rw [List.getElem?_take_of_lt hi, Array.getElem?_toList, Sha.ints_at _ _ _ (by omega)] at e2
    exact e2
theorem rd_cell {w : World} {b o n : Nat} {xs : List Int} (r : Rd w (some ⟨b, o, none⟩) n xs) (i : Nat) (hi : i < n) : w.cell? ⟨b, o + i, none⟩ = some (.int .u8 (at_ xs i)) := by
  rcases r.2.2 with h | ⟨b', o', h, hc⟩
  · omega
  · injection h with h
    injection h with h1 h2
    subst h1 h2
    exact hc i hi
theorem rd_bar {w w' : World} {b o n : Nat} {xs : List Int} {g : Nat} (r : Rd w (some ⟨b, o, none⟩) n xs) (h : Bar [g] w w') (hg : b ≠ g) : Rd w' (some ⟨b, o, none⟩) n xs :=
  r.keep h (by intro x hx; rw [List.mem_singleton] at hx; subst hx; exact .inr fun o ho => by injection ho with ho; injection ho with ho; exact hg ho)
theorem wr_byte {w : World} {g n : Nat} {T : TypeId} {xs : List Int} (h : Wr w g T n xs) (i : Nat) : 0 ≤ at_ xs i ∧ at_ xs i ≤ 255 := h.2.1.at_ i
end Go.Proofs.YtjlhnhkjgcbnnaaGreat.Sha
