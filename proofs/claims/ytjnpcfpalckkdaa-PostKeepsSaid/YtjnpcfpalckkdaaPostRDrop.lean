/-
  The document's post: Drop; two parcels alike.
-/
import Derived.Test.YtjnpcfpalckkdaaPostRTake
import Derived.Test.YtjnpcfpalckkdaaBytes
namespace Go.Proofs.Ytjnpcfpalckkdaa.Post
open Go.RowKit Go.Proofs.Ytjnpcfpalckkdaa.Sha

set_option maxRecDepth 100000 in
set_option maxHeartbeats 1000000 in
theorem rdrop_any {N x : Nat} {F : List Nat} {w : World} {m : Int} {l : List PV} (i : Int) (h : Ps 46 F N w x m l) : Calls Try.prog 17 #[.pointer (some ⟨x, 0, none⟩), .int .i64 i] w (NumP 46 F N x m (.bool (hasB i l)) (delP i l) w) := by
  have CT := rtake_any i h
  obtain ⟨p, hp⟩ : ∃ z, atP i l = z := ⟨_, rfl⟩
  rw [hp] at CT
  unfold ParP at CT
  replace CT := Kept.mk CT
  generalize hasB i l = t at *
  generalize delP i l = l2 at *
  obtain ⟨to, b⟩ := p
  clear hp h
  go_enter Try.func17, Try.ntmps17
  go_wp2_with fail
  refine CT.out.mono ?_
  rintro e w2 ⟨A, n, c, F', rfl, -, -, -, hp, hf⟩
  have bb : Below w2.heap.size w2 (w2.alloc (.cells #[.int .i64 to, .slice A n c] 37)) := (Below.refl _ _).alloc (Nat.le_refl _) _
  have H := Kept.mk (hp.below bb)
  have FP : Kept (Fp F F' w (w2.alloc (.cells #[.int .i64 to, .slice A n c] 37))) := ⟨hf.1.trans (barOf bb []) (by simp), hf.2⟩
  clear bb hp hf CT
  go_wp2
  go_ret
  exact ⟨F', rfl, H.out, FP.out⟩
set_option maxRecDepth 100000 in
set_option maxHeartbeats 1000000 in
theorem rsame_yes (to : Int) (A B : Option Addr) (n c m d : Nat) (b : List Int) (w : World) (ha : Rd w A n b) (hb : Rd w B m b) :
    Calls Try.prog 15 #[.agg #[.int .i64 to, .slice A n c], .agg #[.int .i64 to, .slice B m d]] w fun e w' => e = .returned (.bool true) ∧ Below w.heap.size w w' := by
  have b2 : Below w.heap.size w ((w.alloc (.cells #[.int .i64 to, .slice A n c] 37)).alloc (.cells #[.int .i64 to, .slice B m d] 37)) := ((Below.refl _ _).alloc (Nat.le_refl _) _).alloc (by simp) _
  have cb := Kept.mk (bytes_same A B n m c d b _ (ha.below b2) (hb.below b2))
  have B2 := Kept.mk b2
  clear ha hb b2
  go_enter Try.func15, Try.ntmps15
  go_wp2_with fail
  refine cb.out.mono ?_
  rintro x w' ⟨rfl, rfl⟩
  go_wp2
  go_ret
  exact ⟨rfl, B2.out⟩
end Go.Proofs.Ytjnpcfpalckkdaa.Post
