/-
  Package wire, reading: the contracts where the answer is known; cells of other blocks.
-/
import Derived.Test.YtfjkbggbaoiiiaaWireDec3
import Derived.Deep.RegionHeld3
import Derived.StillTailTactics
namespace Go.Proofs.Ytfjkbggbaoiiiaa.Wire
open Go.RowKit Go.Proofs.Ytfjkbggbaoiiiaa.Sha

theorem dtxt_is {w : World} {d : Nat} {G : List Nat} {st st' : St} {b : List Int} (h : De 62 w d G st) (hd : d ∉ G) (hl : st.2.length < 2147483648) (e : decTxt st = (b, st')) :
    Calls Try.prog 22 #[.pointer (some ⟨d, 0, none⟩)] w fun x w' => ∃ v, x = .returned v ∧ w'.ownsRow w.heap.size 5 1 v b.length (ints .u8 b) ∧ De 62 w' d G st' ∧ Bar [d] w w' := by
  have := dtxt_any w d G st h hd hl
  unfold TxtPost at this
  rw [e] at this
  exact this
theorem dnum_is {w : World} {d : Nat} {G : List Nat} {st st' : St} {s n : Int} (h : De 62 w d G st) (hd : d ∉ G) (e : decNum st s = (n, st')) :
    Calls Try.prog 20 #[.pointer (some ⟨d, 0, none⟩), .int .i64 s] w fun x w' => x = .returned (.int .i64 n) ∧ De 62 w' d G st' ∧ Bar [d] w w' := by
  have := dnum_any w d G s st h hd
  rw [e] at this
  exact this
end Go.Proofs.Ytfjkbggbaoiiiaa.Wire
