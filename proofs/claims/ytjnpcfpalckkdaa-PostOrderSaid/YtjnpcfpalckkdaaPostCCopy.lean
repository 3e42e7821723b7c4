/-
  Package post: Copy.
-/
import Derived.Test.YtjnpcfpalckkdaaPostCPut
import Derived.Test.YtjnpcfpalckkdaaPostC1
namespace Go.Proofs.Ytjnpcfpalckkdaa.Post
open Go.RowKit Go.Proofs.Ytjnpcfpalckkdaa.Sha

set_option maxRecDepth 100000 in
set_option maxHeartbeats 1000000 in
theorem ccopy_any {N x : Nat} {F : List Nat} {w : World} {m : Int} {l : List PV} (i : Int) (h : Ps 52 F N w x m l) : Calls Try.prog 18 #[.pointer (some ⟨x, 0, none⟩), .int .i64 i] w (NumP 52 F N x m (.int .i64 (copyE m i l)) (copyP m i l) w) := by
  have CH := Kept.mk (chas_any i h)
  obtain ⟨er, her⟩ : ∃ z, copyE m i l = z := ⟨_, rfl⟩
  obtain ⟨l2, hl2⟩ : ∃ z, copyP m i l = z := ⟨_, rfl⟩
  rw [her, hl2]
  unfold copyE at her
  unfold copyP at hl2
  by_cases hi : hasB i l = true
  · rw [if_pos hi] at her hl2
    rw [hi] at CH
    obtain ⟨k, rfl, hk⟩ := has_true hi
    have H := h
    obtain ⟨q, rfl, P⟩ := h
    obtain ⟨B, cp, hcp1, hcp2, X, hF⟩ := P.pv
    rw [List.length_map] at hk
    obtain ⟨g, p, rfl, hq, k0, k1, ⟨-, -, -, hr⟩, hv⟩ := X.at_ hk
    rw [hv] at her hl2
    have c1 : w.cell? ⟨x, 1, none⟩ = some (.slice (some ⟨g, 0, none⟩) q.length cp) := X.blk.cell 1
    have CP : Kept (Calls Try.prog 11 #[.pointer (some ⟨x, 0, none⟩), .int .i64 p.to, .slice p.A p.n p.c] w.drew (NumP 52 F N x m (.int .i64 er) l2 w.drew)) := ⟨by
      have := cput_any (c := p.c) p.to (H.below (w' := w.drew) (Below.refl _ _).drew) (hr.1.below (w' := w.drew) (Below.refl _ _).drew)
      rw [← her, ← hl2]
      exact this⟩
    have hk' : (k : Int) < q.length := by omega
    clear her hl2 hi H P X hF hq hv hr
    go_enter Try.func18, Try.ntmps18
    go_wp2_with fail
    refine CH.out.mono ?_
    rintro e w1 ⟨rfl, rfl⟩
    go_upto_region 3 with (fail)
    refine wp_region_still_tail 17 (by kernel_rfl) (by kernel_rfl) ?_
    simp only [List.take_succ_cons, List.take_zero, List.drop_succ_cons, List.drop_zero]
    repeat still_step
    refine wpStill_nil ?_
    change wpList _ _ _ _ _ w.drew
    go_wp2_with fail
    refine CP.out.mono ?_
    rintro e w2 ⟨F2, rfl, P2, F2p⟩
    have FP : Kept (Fp F F2 w w2) := ⟨(F2p.1.drewL), F2p.2⟩
    replace P2 := Kept.mk P2
    clear F2p CP CH k0 k1 c1
    go_wp2
    go_ret
    exact ⟨F2, rfl, P2.out, FP.out⟩
  · rw [if_neg hi] at her hl2
    have hi' : hasB i l = false := by simpa using hi
    rw [hi'] at CH
    subst her hl2
    have H := Kept.mk h
    clear h hi hi'
    go_enter Try.func18, Try.ntmps18
    go_wp2_with fail
    refine CH.out.mono ?_
    rintro e w1 ⟨rfl, rfl⟩
    go_wp2
    go_ret
    exact ⟨F, rfl, H.out, Fp.refl _ _⟩
end Go.Proofs.Ytjnpcfpalckkdaa.Post
