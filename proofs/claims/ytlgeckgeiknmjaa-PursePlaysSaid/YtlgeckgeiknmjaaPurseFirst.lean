/-
  What the chapter's examples fix; the law's bound on a beginning.
-/
import Derived.Test.YtlgeckgeiknmjaaPurseNew
namespace Go.Proofs.Ytlgeckgeiknmjaa.Purse
open Go.RowKit Go.Proofs.Ytlgeckgeiknmjaa.Sha Go.Proofs.Ytlgeckgeiknmjaa.Num

/-- two parties, one asset -/
def twoX (a b : Int) (r : Nat) : List Int := if r = 0 then [a] else [b]
def twoW (w : World) (a b : Int) : World := ((w.alloc (.cells #[.int .i64 a] 3)).alloc (.cells #[.int .i64 b] 3)).alloc (.cells #[.slice (some ⟨w.heap.size, 0, none⟩) 1 1, .slice (some ⟨w.heap.size + 1, 0, none⟩) 1 1] 41)
theorem twoW_below (w : World) (a b : Int) : Below w.heap.size w (twoW w a b) := (((Below.refl _ w).alloc (Nat.le_refl _) _).alloc (by simp) _).alloc (by simp; omega) _
theorem two_rows (w : World) (a b : Int) : Rwi (twoW w a b) (some ⟨w.heap.size + 2, 0, none⟩) 2 (twoX a b) := by
  refine .inr ⟨_, _, rfl, fun r hr => ?_⟩
  have h1 : Blk (twoW w a b) w.heap.size 3 #[.int .i64 a] := ((Blk.new w 3 #[.int .i64 a]).alloc _).alloc _
  have h2 : Blk (twoW w a b) (w.heap.size + 1) 3 #[.int .i64 b] := (Blk.new_at (w.alloc (.cells #[.int .i64 a] 3)) 3 #[.int .i64 b] (w.heap.size + 1) (by simp)).alloc _
  have h3 : Blk (twoW w a b) (w.heap.size + 2) 41 #[.slice (some ⟨w.heap.size, 0, none⟩) 1 1, .slice (some ⟨w.heap.size + 1, 0, none⟩) 1 1] := Blk.new_at ((w.alloc (.cells #[.int .i64 a] 3)).alloc (.cells #[.int .i64 b] 3)) _ _ _ (by simp)
  match r, hr with
  | 0, _ => exact ⟨_, 1, 1, h3.cell 0, by omega, by omega, rfl, .inr ⟨_, 0, rfl, fun i hi => by
      obtain rfl : i = 0 := by omega
      exact h1.cell 0⟩⟩
  | 1, _ => exact ⟨_, 1, 1, h3.cell 1, by omega, by omega, rfl, .inr ⟨_, 0, rfl, fun i hi => by
      obtain rfl : i = 0 := by omega
      exact h2.cell 0⟩⟩
def twoOk (a b : Int) : Bool := (sumGo 0 [a, b]).isSome
theorem two_col (a b : Int) : col (twoX a b) 2 0 = [a, b] := rfl
theorem two_ok {a b : Int} (h : twoOk a b = true) : newOk 2 (twoX a b) :=
  ⟨⟨by omega, by omega⟩, ⟨by simp [twoX], by simp [twoX]⟩, fun i _ => by unfold twoX; split <;> simp, fun q hq => by
    have hl : (twoX a b 0).length = 1 := rfl
    obtain rfl : q = 0 := by omega
    rw [two_col]
    simp only [sumE]
    rw [show (sumGo 0 [a, b]).isSome = true from h]
    rfl⟩
theorem two_no {a b : Int} (h : twoOk a b = false) : ¬ newOk 2 (twoX a b) := fun k => by
  have := k.2.2.2 0 (by simp [twoX])
  rw [two_col] at this
  simp only [sumE] at this
  rw [show (sumGo 0 [a, b]).isSome = false from h] at this
  simp [bit] at this
/-- New of two parties and one asset -/
theorem new_two (w : World) (a b : Int) (N : Nat) (hN : w.heap.size + 2 = N) (h : twoOk a b = true) : Calls Try.prog 9 #[.slice (some ⟨N, 0, none⟩) 2 2] (twoW w a b) fun e w' => ∃ p F, e = .returned (.tuple #[.pointer (some ⟨p, 0, none⟩), .int .i64 0]) ∧ Pc w' F p (newP 2 (twoX a b)) ∧ Fp [] F w w' := by
  subst hN
  refine (new_any _ 2 2 _ _ (two_rows w a b)).mono ?_
  rintro e w' (⟨h1, -⟩ | ⟨-, p, F, h1, h2, h3⟩)
  · exact absurd (two_ok h) h1
  · exact ⟨p, F, h1, h2, Fp.trans (⟨barOf (twoW_below w a b) [], fun k hk => .inl hk⟩ : Fp [] [] w (twoW w a b)) h3⟩
theorem new_two_no (w : World) (a b : Int) (N : Nat) (hN : w.heap.size + 2 = N) (h : twoOk a b = false) : Calls Try.prog 9 #[.slice (some ⟨N, 0, none⟩) 2 2] (twoW w a b) fun e w' => e = .returned (.tuple #[.pointer none, .int .i64 1]) ∧ Below w.heap.size w w' := by
  subst hN
  refine (new_any _ 2 2 _ _ (two_rows w a b)).mono ?_
  rintro e w' (⟨-, h1, h2⟩ | ⟨h1, -⟩)
  · exact ⟨h1, (twoW_below w a b).trans (h2.mono (twoW_below w a b).size)⟩
  · exact absurd h1 (two_no h)
set_option maxRecDepth 100000 in
set_option maxHeartbeats 1000000 in
theorem first_any (w : World) : Calls Try.prog 7 #[] w (Holds w) := by
  have N1 := Kept.mk (new_two w 5 0 (w.heap.size + 2) rfl (by decide))
  go_enter Try.func7, Try.ntmps7
  go_wp2_with fail
  refine N1.out.mono ?_
  rintro e w1 ⟨p, F, rfl, hp, fp⟩
  obtain ⟨B, L⟩ := step_fp ⟨Below.refl _ _⟩ fp (none_least _)
  have T1 := Kept.mk (take_any 0 0 6 hp)
  rw [show takeP (newP 2 (twoX 5 0)) 0 0 6 = (7, newP 2 (twoX 5 0)) from take_less (k := 0) (b := 0) (by decide) (by decide)] at T1
  clear fp hp
  go_wp2_with fail
  refine T1.out.mono ?_
  rintro e w2 ⟨rfl, F2, hp, fp⟩
  obtain ⟨B, L⟩ := step_fp B fp L
  have M1 := Kept.mk (move_any 0 1 0 5 hp)
  rw [show moveP (newP 2 (twoX 5 0)) 0 1 0 5 = (0, _) from move_yes (k := 0) (q := 1) (b := 0) (by decide) (by decide) (by decide) (by decide)] at M1
  clear fp hp T1
  go_wp2_with fail
  refine M1.out.mono ?_
  rintro e w3 ⟨rfl, F3, hp, fp⟩
  obtain ⟨B, L⟩ := step_fp B fp L
  have H1 := Kept.mk (has_any hp 1 0)
  rw [show hasP (put (put (newP 2 (twoX 5 0)) 0 0 ((newP 2 (twoX 5 0)).v 0 0 - 5)) 1 0 ((newP 2 (twoX 5 0)).v 1 0 + 5)) 1 0 = 5 from by decide] at H1
  have P1 := Kept.mk (parties_any hp)
  have A1 := Kept.mk (assets_any hp)
  simp only [put_np, put_na, show (newP 2 (twoX 5 0)).np = 2 from rfl, show (newP 2 (twoX 5 0)).na = 1 from rfl] at P1 A1
  clear fp hp M1
  go_wp2_with (first | (go_at_call 17; refine H1.out.mono ?_; rintro e w' ⟨rfl, rfl⟩) | (go_at_call 21; refine P1.out.mono ?_; rintro e w' ⟨rfl, rfl⟩) | (go_at_call 22; refine A1.out.mono ?_; rintro e w' ⟨rfl, rfl⟩))
  go_ret
  exact ⟨rfl, B.out⟩
end Go.Proofs.Ytlgeckgeiknmjaa.Purse
