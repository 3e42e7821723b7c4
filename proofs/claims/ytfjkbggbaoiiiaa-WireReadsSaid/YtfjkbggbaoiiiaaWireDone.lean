/-
  Package wire, writing: Done; the chapter's example.
-/
import Derived.Test.YtfjkbggbaoiiiaaWireEnc
import Derived.Test.YtfjkbggbaoiiiaaClone
namespace Go.Proofs.Ytfjkbggbaoiiiaa.Wire
open Go.RowKit Go.Proofs.Ytfjkbggbaoiiiaa.Sha

set_option maxRecDepth 100000 in
set_option maxHeartbeats 1000000 in
theorem done_any (w : World) (F : List Nat) (e : Nat) (st : St) (h : En 57 w F e st) (hb : Bytes st.2) (hl : st.2.length < 2147483648) :
    Calls Try.prog 16 #[.pointer (some ⟨e, 0, none⟩)] w fun x w' => ∃ v, x = .returned (.tuple #[v, .int .i64 st.1]) ∧ w'.ownsRow w.heap.size 5 1 v st.2.length (ints .u8 st.2) ∧ Below w.heap.size w w' := by
  obtain ⟨v, hbk, ho, hF⟩ := h
  have c0 : w.cell? ⟨e, 0, none⟩ = some v := hbk.cell 0
  have c1 : w.cell? ⟨e, 1, none⟩ = some (.int .i64 st.1) := hbk.cell 1
  obtain ⟨A, cap, rfl, h1, h2, hr⟩ := own_rd ho hb
  have HC := Kept.mk (fun w' (r : Rd w' A st.2.length st.2) => clone_any A st.2.length cap st.2 w' r hl)
  have HR := Kept.mk hr
  have HB := Kept.mk hbk
  clear hr ho hbk
  go_enter Try.func16, Try.ntmps16
  go_wp2
  go_region_held3 (fun w' => w'.cell? ⟨e, 0, none⟩ = some (.slice A st.2.length cap) ∧ w'.cell? ⟨e, 1, none⟩ = some (.int .i64 st.1))
    (first
      | go_keep
      | exact ⟨(HB.out.drew.below hbel HB.out.lt).cell 0, (HB.out.drew.below hbel HB.out.lt).cell 1⟩)
    ((go_at_call 39; refine (HC.out w.drew HR.out.drew).mono ?_; rintro x w' ⟨u, rfl, hown, hbel⟩))
  go_wp2
  go_ret2
  exact ⟨u, rfl, hown, ⟨hbel.os, hbel.tape, hbel.output, hbel.size, hbel.block⟩⟩

/-- what a literal of bytes made -/
theorem rd_lit (w : World) (xs : List Int) (hb : Bytes xs) : Rd (w.alloc (.cells (arr .u8 xs) 5)) (some ⟨w.heap.size, 0, none⟩) xs.length xs := Rd.blk (Blk.new w 5 (arr .u8 xs)) hb rfl
theorem bytes_12 : Bytes [1, 2] := by
  intro x hx
  simp only [List.mem_cons, List.not_mem_nil, or_false] at hx
  omega

set_option maxRecDepth 100000 in
set_option maxHeartbeats 1000000 in
theorem wfirst_any (w : World) : Calls Try.prog 9 #[] w fun x w' => x = .returned (.bool true) ∧ Below w.heap.size w w' := by
  obtain ⟨N, hN⟩ : ∃ N, w.heap.size = N := ⟨_, rfl⟩
  have he : encNum (0, []) 258 2 = (0, [1, 2]) := by decide +kernel
  have HE := Kept.mk he
  clear he
  go_enter Try.func9, Try.ntmps9
  go_wp2_with fail
  refine (newenc_any w).mono ?_
  rintro x w1 ⟨rfl, e1, f1⟩
  rw [hN] at e1 f1 ⊢
  have E1 := Kept.mk e1
  have B1 := Kept.mk (f1.below (B := N) (by simp) (by omega))
  clear e1 f1
  go_wp2_with fail
  refine (num_any w1 [N] N 258 2 (0, []) E1.out (by simp)).mono ?_
  rw [HE.out]
  rintro x w2 ⟨rfl, F2, e2, f2⟩
  have E2 := Kept.mk e2
  have B2 := Kept.mk (B1.out.trans (f2.below (B := N) (by simp) (by have := B1.out.size; omega)))
  clear e2 f2 E1 B1
  go_wp2_with fail
  refine (done_any w2 F2 N (0, [1, 2]) E2.out bytes_12 (by simp)).mono ?_
  rintro x w3 ⟨v, rfl, own, b3⟩
  obtain ⟨A3, c3, rfl, -, -, r3⟩ := own_rd own bytes_12
  have R3 := Kept.mk (r3.below ((Below.refl _ w3).alloc (Nat.le_refl _) (.cells #[.int .u8 1, .int .u8 2] 5)))
  have B3 := Kept.mk (B2.out.trans (b3.mono (by have := B2.out.size; omega)))
  clear own r3 b3 E2 B2
  have B4 := Kept.mk (B3.out.alloc (by have := B3.out.size; omega) (.cells #[.int .u8 1, .int .u8 2] 5))
  have R4 := Kept.mk (rd_lit w3 [1, 2] bytes_12)
  go_wp2_with fail
  refine (bytes_same A3 (some ⟨w3.heap.size, 0, none⟩) 2 2 c3 2 [1, 2] _ R3.out R4.out).mono ?_
  rintro x w4 ⟨rfl, rfl⟩
  go_wp2
  go_ret
  exact ⟨rfl, by rw [hN]; exact B4.out⟩
end Go.Proofs.Ytfjkbggbaoiiiaa.Wire
