/-
  Parts laid together: JSy.
-/
import Derived.Test.YtkbehjdglgpgjaaGreatPart12
import Derived.Test.YtkbehjdglgpgjaaGreatPart14
import Derived.Test.YtkbehjdglgpgjaaGreatPart9

namespace Go.Proofs.YtkbehjdglgpgjaaGreat.Journal
open Go.RowKit Go.Proofs.YtkbehjdglgpgjaaGreat.Sha Go.Proofs.YtkbehjdglgpgjaaGreat.Disk Go.Proofs.YtkbehjdglgpgjaaGreat.Frame

theorem sd_new2 {w w1 w2 : World} {t d n : Nat} {F : List Nat} (ht : Tab w1 t) (htw : w.heap.size ≤ t) (dk : Dk w2 F d n (newD n)) (fp : Fp [] F w1 w2) : Sd w2 (t :: F) t d n (newD n) ∧ (∀ k ∈ t :: F, w.heap.size ≤ k) := by
 have hF : ∀ k ∈ F, w1.heap.size ≤ k := fun k hk => by
  rcases fp.2 k hk with e | e
  ·simp at e
  ·exact e
 have htl := ftab_lt ht
 refine ⟨⟨F, ftab_bar ht fp.1 (by simp), dk, fun hm => by have := hF t hm; omega, rfl⟩, fun k hk => ?_⟩
 rcases List.mem_cons.1 hk with rfl | hk
 ·exact htw
 ·have := hF k hk; omega
theorem sy_turn {Jk : World → List Nat → Nat → Nat → Nat → Nat → JV → Prop} (B : JournalBase Jk) {w w' : World} {F0 F1 G : List Nat} {t d j n : Nat} {s' : DS} {v : JV} (h1 : Tab w t) (h3 : Jk w G j t d n v) (h4 : t ∉ F0) (h5 : t ∉ G) (h6 : Disj F0 G) (k1 : Dk w' F1 d n s') (k2 : Fp F0 F1 w w') : ∃ H', Sy Jk w' H' t d j n s' v ∧ Fp (t :: (F0 ++ G)) H' w w' := by
 have hG : Disj F1 G := h6.step k2 (B.lts h3)
 have ht1 : t ∉ F1 := fun hm => by
  rcases k2.2 t hm with e | e
  ·exact h4 e
  ·have := ftab_lt h1; omega
 refine ⟨t :: (F1 ++ G), ⟨F1, G, ftab_bar h1 k2.1 h4, k1, B.keep h3 k2.1 h6.symm, ht1, h5, hG, rfl⟩, k2.1.mono (fun x hx => .inl (by simp [hx])), fun k hk => ?_⟩
 rcases List.mem_cons.1 hk with e | hk
 ·exact .inl (by simp [e])
 ·rcases List.mem_append.1 hk with hk | hk
  ·rcases k2.2 k hk with e | e
   ·exact .inl (by simp [e])
   ·exact .inr e
  ·exact .inl (by simp [hk])
def TurnPost (Jk : World → List Nat → Nat → Nat → Nat → Nat → JV → Prop) (w : World) (H : List Nat) (t d j n : Nat) (s' : DS) (v : JV) (e : Ending) (w' : World) : Prop := e = .returned (.tuple #[]) ∧ ∃ H', Sy Jk w' H' t d j n s' v ∧ Fp H H' w w'
theorem sy_fuse {Jk : World → List Nat → Nat → Nat → Nat → Nat → JV → Prop} (B : JournalBase Jk) {w : World} {H : List Nat} {t d j n : Nat} {s : DS} {v : JV} (sy : Sy Jk w H t d j n s v) (f : Int) (hf : f ≤ 9223372036854775807) : Calls Tryz.prog 17 #[.pointer (some ⟨d, 0, none⟩), .int .i64 f] w (TurnPost Jk w H t d j n (fuseD s f) v) := by
 obtain ⟨F0, G, h1, h2, h3, h4, h5, h6, rfl⟩ := sy
 refine (cfuse_any f h2 hf).mono ?_
 rintro e w' ⟨rfl, F1, k1, k2⟩
 exact ⟨rfl, sy_turn B h1 h3 h4 h5 h6 k1 k2⟩
theorem sy_crash {Jk : World → List Nat → Nat → Nat → Nat → Nat → JV → Prop} (B : JournalBase Jk) {w : World} {H : List Nat} {t d j n : Nat} {s : DS} {v : JV} (sy : Sy Jk w H t d j n s v) {A : Option Addr} {m c : Nat} {bs : List Bool} (r : Rb w A m bs) (hO : Off A m H) : Calls Tryz.prog 15 #[.pointer (some ⟨d, 0, none⟩), .slice A m c] w (TurnPost Jk w H t d j n (crashD s bs) v) := by
 obtain ⟨F0, G, h1, h2, h3, h4, h5, h6, rfl⟩ := sy
 refine (ccrash_any h2 r ?_).mono ?_
 ·rcases hO with h | ⟨g, o, e, hg⟩
  ·exact .inl h
  ·exact .inr ⟨g, o, e, fun hm => hg (by simp [hm])⟩
 rintro e w' ⟨rfl, F1, k1, k2⟩
 exact ⟨rfl, sy_turn B h1 h3 h4 h5 h6 k1 k2⟩
end Go.Proofs.YtkbehjdglgpgjaaGreat.Journal
