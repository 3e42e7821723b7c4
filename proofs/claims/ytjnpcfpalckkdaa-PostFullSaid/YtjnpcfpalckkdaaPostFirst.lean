/-
  Chapter 17: what the chapter's examples fix.
-/
import Derived.Test.YtjnpcfpalckkdaaPostCTake
import Derived.Test.YtjnpcfpalckkdaaPostCCopy
import Derived.Lib.SlBytesConst
namespace Go.Proofs.Ytjnpcfpalckkdaa.Post
open Go.RowKit Go.Proofs.Ytjnpcfpalckkdaa.Sha

set_option maxRecDepth 100000 in
set_option maxHeartbeats 2000000 in
theorem first_any (w : World) : Calls Try.prog 7 #[] w fun e w' => e = .returned (.bool true) ∧ Below w.heap.size w w' := by
  obtain ⟨N, hN⟩ : ∃ N, w.heap.size = N := ⟨_, rfl⟩
  go_enter Try.func7, Try.ntmps7
  go_wp2_with fail
  refine (cnew_any 1 N w (by omega) (by omega)).mono ?_
  rintro e w1 ⟨rfl, hp, bb⟩
  obtain ⟨x, hx⟩ : ∃ x, w.heap.size = x := ⟨_, rfl⟩
  rw [hx] at hp ⊢
  have P := Kept.mk hp
  have B : Kept (Below N w w1) := ⟨hN ▸ bb⟩
  clear hp bb hx
  have C : Kept (_) := ⟨ctake_any 0 P.out⟩
  go_wp2_with fail
  refine C.out.mono ?_
  rintro e w2 ⟨A, n, c, F2, rfl, -, -, -, hp, hf⟩
  have bb : Below w2.heap.size w2 (w2.alloc (.cells #[.int .i64 (atP 0 []).to, .slice A n c] 37)) := (Below.refl _ _).alloc (Nat.le_refl _) _
  replace B := Kept.mk ((P.out.step B.out hf).trans (bb.mono (by have := hp.root; omega)))
  replace P := Kept.mk (show Ps 52 F2 N _ x 1 [] from hp.below bb)
  clear bb hp hf C
  go_upto_region 5 with (fail)
  generalize w2.alloc (.cells #[.int .i64 (atP 0 []).to, .slice A n c] 37) = w3 at *
  have hcv := Lib.run_convert_bytes_const (P := Try.prog) w3 32 5 #[.int .u8 97] 1 1 Try.underlying32 Try.underlying5
  have hr : Rd (w3.alloc (.cells #[.int .u8 97] 5 (1, 2))) (some ⟨w3.heap.size, 0, none⟩) 1 [97] :=
    Rd.made (T := 5) (fr := (1, 2)) (heap_alloc_new w3 _) (by intro x hx; simp at hx; omega) rfl
  have bA : Below w3.heap.size w3 (w3.alloc (.cells #[.int .u8 97] 5 (1, 2))) := (Below.refl _ _).alloc (Nat.le_refl _) _
  have C := Kept.mk (cput_any (c := 1) 3 (P.out.below bA) hr)
  have BA := Kept.mk bA
  rw [show putE 1 [] [97] = 0 from rfl, show putP 1 [] 3 [97] = [⟨3, [97]⟩] from rfl] at C
  unfold NumP at C
  clear hr bA
  go_wp2_with fail
  refine C.out.mono ?_
  rintro e w4 ⟨F4, rfl, hp, hf⟩
  replace B := Kept.mk (((P.out.below BA.out).step (B.out.trans (BA.out.mono (by have := P.out.root; omega))) hf))
  replace P := Kept.mk hp
  clear C BA hcv hp hf
  have C := Kept.mk (cput_any (A := none) (n := 0) (c := 0) (b := []) 3 P.out Rd.nil_)
  rw [show putE 1 [⟨3, [97]⟩] [] = 12 from rfl, show putP 1 [⟨3, [97]⟩] 3 [] = [⟨3, [97]⟩] from rfl] at C
  unfold NumP at C
  go_wp2_with fail
  refine C.out.mono ?_
  rintro e w5 ⟨F5, rfl, hp, hf⟩
  replace B := Kept.mk (P.out.step B.out hf)
  replace P := Kept.mk hp
  clear C hp hf
  have C := Kept.mk (ccopy_any 0 P.out)
  rw [show copyE 1 0 [⟨3, [97]⟩] = 12 from rfl, show copyP 1 0 [⟨3, [97]⟩] = [⟨3, [97]⟩] from rfl] at C
  unfold NumP at C
  go_wp2_with fail
  refine C.out.mono ?_
  rintro e w6 ⟨F6, rfl, hp, hf⟩
  replace B := Kept.mk (P.out.step B.out hf)
  replace P := Kept.mk hp
  clear C hp hf
  have C := Kept.mk (ccopy_any 1 P.out)
  rw [show copyE 1 1 [⟨3, [97]⟩] = 8 from rfl, show copyP 1 1 [⟨3, [97]⟩] = [⟨3, [97]⟩] from rfl] at C
  unfold NumP at C
  go_wp2_with fail
  refine C.out.mono ?_
  rintro e w7 ⟨F7, rfl, hp, hf⟩
  replace B := Kept.mk (P.out.step B.out hf)
  replace P := Kept.mk hp
  clear C hp hf
  have C := Kept.mk (clen_any P.out)
  rw [show (([⟨3, [97]⟩] : List PV).length : Int) = 1 from rfl] at C
  go_wp2_with fail
  refine C.out.mono ?_
  rintro e w8 ⟨rfl, rfl⟩
  clear C
  go_wp2
  go_ret
  exact ⟨rfl, hN.symm ▸ B.out⟩
end Go.Proofs.Ytjnpcfpalckkdaa.Post
