/-
  Package meter: Add, Swap, Most.
-/
import Derived.Test.YtkgbinngohiffaaMeter2
namespace Go.Proofs.Ytkgbinngohiffaa.Meter
open Go.RowKit Go.Proofs.Ytkgbinngohiffaa.Sha

def AddPost (w : World) (m : Nat) (cs : List Int) (k n : Int) (e : Ending) (w' : World) : Prop :=
  e = .returned (.bool (inK k)) ∧ Me w' m (setC cs k (r64 (getC cs k + n))) ∧ Bar [m] w w'
set_option maxRecDepth 100000 in
set_option maxHeartbeats 400000 in
theorem add_any (m : Nat) (k n : Int) (cs : List Int) (w : World) (hm : Me w m cs) : Calls Try.prog 9 #[.pointer (some ⟨m, 0, none⟩), .int .i64 k, .int .i64 n] w (AddPost w m cs k n) := by
  have hmf : ∀ (fn : Fn) (first cap : Array Value) (w : World), (Instr.makeFunc fn first cap).run Try.prog w = .ok (.func fn first cap) w := fun _ _ _ _ => rfl
  have c0 := Kept.mk (counter_any k (w.alloc (.cells #[.int .i64 n] 3)))
  have m1 := hm.below ((Below.refl w.heap.size w).alloc (Nat.le_refl _) (.cells #[.int .i64 n] 3))
  have b1 := (Bar.refl [m] w).alloc (.cells #[.int .i64 n] 3)
  have hn : (w.alloc (.cells #[.int .i64 n] 3)).cell? ⟨w.heap.size, 0, none⟩ = some (.int .i64 n) := (Blk.new w _ _).cell 0
  have M1 := Kept.mk m1; have B1 := Kept.mk b1; have HN := Kept.mk hn
  clear hm m1 b1 hn
  cases hk : inK k with
  | true =>
    rw [hk] at c0
    obtain ⟨i, rfl, hi⟩ := inK_is hk
    have P1 : ∀ e w', ChgPost (w.alloc (.cells #[.int .i64 n] 3)) m cs i (r64 (at_ cs i + n)) e w' → Kept (e = .returned (.tuple #[.int .i64 (at_ cs i), .int .i64 (r64 (at_ cs i + n))])) ∧ Kept (AddPost w m cs i n (.returned (.bool true)) w') := by
      rintro e w' ⟨he, me, b⟩
      refine ⟨⟨he⟩, ⟨?_⟩⟩
      unfold AddPost setC getC
      simp only [hk, if_true]
      exact ⟨by trivial, me, B1.out.trans b (by simp)⟩
    have c1 := Kept.mk (change_any m i w.heap.size cs 18 n (fun x => r64 (x + n)) _ M1.out hi (next_add _ n) HN.out)
    clear hk HN M1 B1
    go_enter Try.func9, Try.ntmps9
    go_wp2_with fail
    refine c0.out.mono ?_
    rintro e w' ⟨rfl, rfl⟩
    go_wp2_with fail
    refine c1.out.mono ?_
    rintro e w' he
    obtain ⟨⟨rfl⟩, he2⟩ := P1 _ _ he
    clear c0 c1 P1 he
    go_wp2
    go_ret
    exact he2.out
  | false =>
    rw [hk] at c0
    have P1 : Kept (AddPost w m cs k n (.returned (.bool false)) (w.alloc (.cells #[.int .i64 n] 3))) := by
      constructor
      unfold AddPost setC getC
      simp only [hk, Bool.false_eq_true, if_false]
      exact ⟨by trivial, M1.out, B1.out⟩
    clear hk HN M1 B1
    go_enter Try.func9, Try.ntmps9
    go_wp2_with fail
    refine c0.out.mono ?_
    rintro e w' ⟨rfl, rfl⟩
    go_wp2
    go_ret
    exact P1.out

def SwapPost (w : World) (m : Nat) (cs : List Int) (k n : Int) (e : Ending) (w' : World) : Prop :=
  e = .returned (.int .i64 (getC cs k)) ∧ Me w' m (setC cs k (n)) ∧ Bar [m] w w'
set_option maxRecDepth 100000 in
set_option maxHeartbeats 400000 in
theorem swap_any (m : Nat) (k n : Int) (cs : List Int) (w : World) (hm : Me w m cs) : Calls Try.prog 10 #[.pointer (some ⟨m, 0, none⟩), .int .i64 k, .int .i64 n] w (SwapPost w m cs k n) := by
  have hmf : ∀ (fn : Fn) (first cap : Array Value) (w : World), (Instr.makeFunc fn first cap).run Try.prog w = .ok (.func fn first cap) w := fun _ _ _ _ => rfl
  have c0 := Kept.mk (counter_any k (w.alloc (.cells #[.int .i64 n] 3)))
  have m1 := hm.below ((Below.refl w.heap.size w).alloc (Nat.le_refl _) (.cells #[.int .i64 n] 3))
  have b1 := (Bar.refl [m] w).alloc (.cells #[.int .i64 n] 3)
  have hn : (w.alloc (.cells #[.int .i64 n] 3)).cell? ⟨w.heap.size, 0, none⟩ = some (.int .i64 n) := (Blk.new w _ _).cell 0
  have M1 := Kept.mk m1; have B1 := Kept.mk b1; have HN := Kept.mk hn
  clear hm m1 b1 hn
  cases hk : inK k with
  | true =>
    rw [hk] at c0
    obtain ⟨i, rfl, hi⟩ := inK_is hk
    have P1 : ∀ e w', ChgPost (w.alloc (.cells #[.int .i64 n] 3)) m cs i (n) e w' → Kept (e = .returned (.tuple #[.int .i64 (at_ cs i), .int .i64 (n)])) ∧ Kept (SwapPost w m cs i n (.returned (.int .i64 (at_ cs i))) w') := by
      rintro e w' ⟨he, me, b⟩
      refine ⟨⟨he⟩, ⟨?_⟩⟩
      unfold SwapPost setC getC
      simp only [hk, if_true]
      exact ⟨by trivial, me, B1.out.trans b (by simp)⟩
    have c1 := Kept.mk (change_any m i w.heap.size cs 19 n (fun _ => n) _ M1.out hi (next_swap _ n) HN.out)
    clear hk HN M1 B1
    go_enter Try.func10, Try.ntmps10
    go_wp2_with fail
    refine c0.out.mono ?_
    rintro e w' ⟨rfl, rfl⟩
    go_wp2_with fail
    refine c1.out.mono ?_
    rintro e w' he
    obtain ⟨⟨rfl⟩, he2⟩ := P1 _ _ he
    clear c0 c1 P1 he
    go_wp2
    go_ret
    exact he2.out
  | false =>
    rw [hk] at c0
    have P1 : Kept (SwapPost w m cs k n (.returned (.int .i64 0)) (w.alloc (.cells #[.int .i64 n] 3))) := by
      constructor
      unfold SwapPost setC getC
      simp only [hk, Bool.false_eq_true, if_false]
      exact ⟨by trivial, M1.out, B1.out⟩
    clear hk HN M1 B1
    go_enter Try.func10, Try.ntmps10
    go_wp2_with fail
    refine c0.out.mono ?_
    rintro e w' ⟨rfl, rfl⟩
    go_wp2
    go_ret
    exact P1.out

def MostPost (w : World) (m : Nat) (cs : List Int) (k n : Int) (e : Ending) (w' : World) : Prop :=
  e = .returned (.int .i64 (if inK k = true then gr (getC cs k) n else 0)) ∧ Me w' m (setC cs k (gr (getC cs k) n)) ∧ Bar [m] w w'
set_option maxRecDepth 100000 in
set_option maxHeartbeats 400000 in
theorem most_any (m : Nat) (k n : Int) (cs : List Int) (w : World) (hm : Me w m cs) : Calls Try.prog 11 #[.pointer (some ⟨m, 0, none⟩), .int .i64 k, .int .i64 n] w (MostPost w m cs k n) := by
  have hmf : ∀ (fn : Fn) (first cap : Array Value) (w : World), (Instr.makeFunc fn first cap).run Try.prog w = .ok (.func fn first cap) w := fun _ _ _ _ => rfl
  have c0 := Kept.mk (counter_any k (w.alloc (.cells #[.int .i64 n] 3)))
  have m1 := hm.below ((Below.refl w.heap.size w).alloc (Nat.le_refl _) (.cells #[.int .i64 n] 3))
  have b1 := (Bar.refl [m] w).alloc (.cells #[.int .i64 n] 3)
  have hn : (w.alloc (.cells #[.int .i64 n] 3)).cell? ⟨w.heap.size, 0, none⟩ = some (.int .i64 n) := (Blk.new w _ _).cell 0
  have M1 := Kept.mk m1; have B1 := Kept.mk b1; have HN := Kept.mk hn
  clear hm m1 b1 hn
  cases hk : inK k with
  | true =>
    rw [hk] at c0
    obtain ⟨i, rfl, hi⟩ := inK_is hk
    have P1 : ∀ e w', ChgPost (w.alloc (.cells #[.int .i64 n] 3)) m cs i (gr (at_ cs i) n) e w' → Kept (e = .returned (.tuple #[.int .i64 (at_ cs i), .int .i64 (gr (at_ cs i) n)])) ∧ Kept (MostPost w m cs i n (.returned (.int .i64 (gr (at_ cs i) n))) w') := by
      rintro e w' ⟨he, me, b⟩
      refine ⟨⟨he⟩, ⟨?_⟩⟩
      unfold MostPost setC getC
      simp only [hk, if_true]
      exact ⟨by trivial, me, B1.out.trans b (by simp)⟩
    have c1 := Kept.mk (change_any m i w.heap.size cs 20 n (fun x => gr x n) _ M1.out hi (next_most _ n) HN.out)
    clear hk HN M1 B1
    go_enter Try.func11, Try.ntmps11
    go_wp2_with fail
    refine c0.out.mono ?_
    rintro e w' ⟨rfl, rfl⟩
    go_wp2_with fail
    refine c1.out.mono ?_
    rintro e w' he
    obtain ⟨⟨rfl⟩, he2⟩ := P1 _ _ he
    clear c0 c1 P1 he
    go_wp2
    go_ret
    exact he2.out
  | false =>
    rw [hk] at c0
    have P1 : Kept (MostPost w m cs k n (.returned (.int .i64 0)) (w.alloc (.cells #[.int .i64 n] 3))) := by
      constructor
      unfold MostPost setC getC
      simp only [hk, Bool.false_eq_true, if_false]
      exact ⟨by trivial, M1.out, B1.out⟩
    clear hk HN M1 B1
    go_enter Try.func11, Try.ntmps11
    go_wp2_with fail
    refine c0.out.mono ?_
    rintro e w' ⟨rfl, rfl⟩
    go_wp2
    go_ret
    exact P1.out
end Go.Proofs.Ytkgbinngohiffaa.Meter
