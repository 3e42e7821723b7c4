/-
  The law FrameReads, walked over contracts.
-/
import Derived.Test.YtimdbljagpbecaaPart3
namespace Go.Proofs.Ytimdbljagpbecaa.Frame
open Go.RowKit Go.Proofs.Ytimdbljagpbecaa.Sha Go.Proofs.Ytimdbljagpbecaa.Wire

set_option maxRecDepth 100000 in
set_option maxHeartbeats 1000000 in
theorem freads_walk (api : FrameApi) (A : Option Addr) (n cap : Nat) (b : List Int) (w : World) (hr : Rd w A n b) (hc : n ≤ cap) (hcm : cap ≤ 9223372036854775807) :
    Calls Try.prog 4 #[.slice A n cap] w fun e w' => e = .returned (.bool true) ∧ Below w.heap.size w w' := by
  obtain ⟨N, hN⟩ : ∃ N, w.heap.size = N := ⟨_, rfl⟩
  rw [hN]
  have HR := Kept.mk hr
  have cf := Kept.mk fun w => ffirst_any api w
  clear hr
  by_cases hbig : 70000 < n
  · have hbig' : (70000 : Int) < n := by omega
    go_enter Try.func4, Try.ntmps4
    go_wp2_with fail
    refine (cf.out _).mono ?_
    rintro x w1 ⟨rfl, b1⟩
    rw [hN] at b1
    go_wp2_with fail
    refine (cf.out _).mono ?_
    rintro x w2 ⟨rfl, b2⟩
    have B2 := Kept.mk (b1.trans (b2.mono (by have := b1.size; omega)))
    clear b1 b2
    go_wp2
    go_ret
    exact ⟨rfl, B2.out⟩
  · have hbig' : ((70000 : Int) < n) = False := eq_false (by omega)
    go_enter Try.func4, Try.ntmps4
    go_wp2_with fail
    refine (cf.out _).mono ?_
    rintro x w1 ⟨rfl, b1⟩
    rw [hN] at b1
    go_wp2_with fail
    refine (newtable_any w1).mono ?_
    rintro e w2 ⟨rfl, rfl⟩
    obtain ⟨t, ht⟩ : ∃ t, w1.heap.size = t := ⟨_, rfl⟩
    rw [ht]
    have hT : Tab (w1.alloc (.cells (tbl (.int .u32 0) (.int .i32 0) (.int .u32 0) 0 0) 63)) t := .inl (Blk.new_at _ _ _ t ht.symm)
    have htN : N ≤ t := by have := b1.size; omega
    have hB : Below N w (w1.alloc (.cells (tbl (.int .u32 0) (.int .i32 0) (.int .u32 0) 0 0) 63)) := b1.alloc (by omega) _
    generalize w1.alloc (.cells (tbl (.int .u32 0) (.int .i32 0) (.int .u32 0) 0 0) 63) = w2 at *
    have hO : Off A n [t] := HR.out.off (fun k hk => by rw [List.mem_singleton] at hk; omega)
    have CG := Kept.mk (api.get hT (HR.out.below (hN ▸ hB)) hc hcm (by omega) hO)
    have B2 := Kept.mk hB
    clear hT hB b1 hO ht
    go_wp2_with fail
    refine CG.out.mono ?_
    rintro x w3 ⟨Ax, nx, cx, rfl, hcx, hmx, rx, -, -, b3⟩
    have B3 := B2.out.trans (b3.below (B := N) (by have := B2.out.size; omega) (fun k hk => by rw [List.mem_singleton] at hk; omega))
    have RX := Kept.mk rx
    have CD := Kept.mk fun w' (hb : Below N w w') => rget_any A n cap b w' (HR.out.below (hN ▸ hb)) hc hcm
    obtain ⟨g, hg⟩ : ∃ g, getF b = g := ⟨_, rfl⟩
    rw [hg] at RX CD ⊢
    obtain ⟨p, hp⟩ : ∃ p, w3.heap.size = p := ⟨_, rfl⟩
    have hpN : N ≤ p := by have := B3.size; omega
    have b4 : Below N w (w3.alloc (.cells #[.int .i64 g.1.kind, .int .i64 g.1.gen, .int .i64 g.1.seq, .slice Ax nx cx] 24)) := B3.alloc (by omega) _
    have X4 := Kept.mk (Blk.new_at w3 24 #[.int .i64 g.1.kind, .int .i64 g.1.gen, .int .i64 g.1.seq, .slice Ax nx cx] p hp.symm)
    have R4 := Kept.mk (RX.out.below ((Below.refl _ w3).alloc (Nat.le_refl _) (.cells #[.int .i64 g.1.kind, .int .i64 g.1.gen, .int .i64 g.1.seq, .slice Ax nx cx] 24)))
    have B4 := Kept.mk b4
    have C4 := Kept.mk (CD.out _ b4)
    unfold frv
    clear CG B2 b3 B3 rx RX CD b4 hg
    go_wp2_with fail
    generalize w3.alloc (.cells #[.int .i64 g.1.kind, .int .i64 g.1.gen, .int .i64 g.1.seq, .slice Ax nx cx] 24) = w4 at *
    refine C4.out.mono ?_
    rintro x w5 ⟨Ay, ny, cy, rfl, hcy, hmy, ry, b5⟩
    obtain ⟨q, hq⟩ : ∃ q, w5.heap.size = q := ⟨_, rfl⟩
    have hs4 : p < w4.heap.size := X4.out.lt
    have hs5 := b5.size
    have b6 : Below w4.heap.size w4 (w5.alloc (.cells #[.int .i64 g.1.kind, .int .i64 g.1.gen, .int .i64 g.1.seq, .slice Ay ny cy] 24)) := b5.alloc (by omega) _
    have X6 := X4.out.below b6 hs4
    have Y6 := Blk.new_at w5 24 #[.int .i64 g.1.kind, .int .i64 g.1.gen, .int .i64 g.1.seq, .slice Ay ny cy] q hq.symm
    have R6 := R4.out.below b6
    have S6 := ry.below ((Below.refl _ w5).alloc (Nat.le_refl _) (.cells #[.int .i64 g.1.kind, .int .i64 g.1.gen, .int .i64 g.1.seq, .slice Ay ny cy] 24))
    have B6 := B4.out.trans (b6.mono (by omega))
    go_wp2_with fail
    generalize w5.alloc (.cells #[.int .i64 g.1.kind, .int .i64 g.1.gen, .int .i64 g.1.seq, .slice Ay ny cy] 24) = w6 at *
    refine (cf.out _).mono ?_
    rintro x w7 ⟨rfl, b7⟩
    have X7 := X6.below b7 X6.lt
    have Y7 := Y6.below b7 Y6.lt
    have cs := Kept.mk (rsame_yes g.1 Ax Ay nx cx ny cy w7 (R6.below b7) (S6.below b7))
    have B7 := Kept.mk (B6.trans (b7.mono (by have := X6.lt; omega)))
    have x0 := X7.cell 0; have x1 := X7.cell 1; have x2 := X7.cell 2; have x3 := X7.cell 3
    have y0 := Y7.cell 0; have y1 := Y7.cell 1; have y2 := Y7.cell 2; have y3 := Y7.cell 3
    clear X7 Y7 X6 Y6 b7 b6 b5 R6 S6 B6 C4 X4 R4 B4 ry
    unfold frv at cs
    go_wp2_with fail
    refine cs.out.mono ?_
    rintro x w8 ⟨rfl, b8⟩
    have B8 := Kept.mk (B7.out.trans (b8.mono (by have := B7.out.size; omega)))
    clear b8
    go_wp2
    go_ret
    exact ⟨rfl, B8.out⟩
end Go.Proofs.Ytimdbljagpbecaa.Frame
