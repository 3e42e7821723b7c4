/-
  Parts laid together: JournalFace JournalApi.
-/
import Derived.Test.YtkbehjdglgpgjaaGreatPart3
import Derived.Test.YtkbehjdglgpgjaaGreatPart9
import Derived.Test.YtkbehjdglgpgjaaGreatPart11
import Derived.Test.YtkbehjdglgpgjaaGreatPart4

namespace Go.Proofs.YtkbehjdglgpgjaaGreat.Journal
open Go.RowKit Go.Proofs.YtkbehjdglgpgjaaGreat.Sha Go.Proofs.YtkbehjdglgpgjaaGreat.Disk Go.Proofs.YtkbehjdglgpgjaaGreat.Frame

def Sd (w : World) (H : List Nat) (t d n : Nat) (s : DS) : Prop := ∃ F, Tab w t ∧ Dk w F d n s ∧ t ∉ F ∧ H = t :: F
section
variable (Jk : World → List Nat → Nat → Nat → Nat → Nat → JV → Prop)
def Sy (w : World) (H : List Nat) (t d j n : Nat) (s : DS) (v : JV) : Prop := ∃ F G, Tab w t ∧ Dk w F d n s ∧ Jk w G j t d n v ∧ t ∉ F ∧ t ∉ G ∧ Disj F G ∧ H = t :: (F ++ G)
structure JournalBase : Prop where
 lts : ∀ {w G j t d n v}, Jk w G j t d n v → ∀ k ∈ G, k < w.heap.size
 keep : ∀ {w w' G K j t d n v}, Jk w G j t d n v → Bar K w w' → Disj G K → Jk w' G j t d n v
end
variable {Jk : World → List Nat → Nat → Nat → Nat → Nat → JV → Prop}
theorem Sd.lts {w : World} {H : List Nat} {t d n : Nat} {s : DS} (h : Sd w H t d n s) : ∀ k ∈ H, k < w.heap.size := by
 obtain ⟨F, h1, h2, -, rfl⟩ := h
 intro k hk
 rcases List.mem_cons.1 hk with rfl | hk
 ·exact ftab_lt h1
 ·exact h2.lts k hk
theorem Sd.keep {w w' : World} {H K : List Nat} {t d n : Nat} {s : DS} (h : Sd w H t d n s) (b : Bar K w w') (j : Disj H K) : Sd w' H t d n s := by
 obtain ⟨F, h1, h2, h3, rfl⟩ := h
 exact ⟨F, ftab_bar h1 b (j t (by simp)), h2.keep b (fun k hk => j k (by simp [hk])), h3, rfl⟩
theorem Sy.lts (B : JournalBase Jk) {w : World} {H : List Nat} {t d j n : Nat} {s : DS} {v : JV} (h : Sy Jk w H t d j n s v) : ∀ k ∈ H, k < w.heap.size := by
 obtain ⟨F, G, h1, h2, h3, -, -, -, rfl⟩ := h
 intro k hk
 rcases List.mem_cons.1 hk with rfl | hk
 ·exact ftab_lt h1
 ·rcases List.mem_append.1 hk with hk | hk
  ·exact h2.lts k hk
  ·exact B.lts h3 k hk
theorem Sy.keep (B : JournalBase Jk) {w w' : World} {H K : List Nat} {t d j n : Nat} {s : DS} {v : JV} (h : Sy Jk w H t d j n s v) (b : Bar K w w') (q : Disj H K) : Sy Jk w' H t d j n s v := by
 obtain ⟨F, G, h1, h2, h3, h4, h5, h6, rfl⟩ := h
 exact ⟨F, G, ftab_bar h1 b (q t (by simp)), h2.keep b (fun k hk => q k (by simp [hk])), B.keep h3 b (fun k hk => q k (by simp [hk])), h4, h5, h6, rfl⟩
theorem Sy.below (B : JournalBase Jk) {w w' : World} {H : List Nat} {t d j n : Nat} {s : DS} {v : JV} (h : Kept (Sy Jk w H t d j n s v)) (b : Below w.heap.size w w') : Kept (Sy Jk w' H t d j n s v) := ⟨h.out.keep B (barOf b []) (fun _ _ => by simp)⟩
theorem Sy.sd {w : World} {H : List Nat} {t d j n : Nat} {s : DS} {v : JV} (h : Sy Jk w H t d j n s v) : ∃ H', Sd w H' t d n s ∧ ∀ k ∈ H', k ∈ H := by
 obtain ⟨F, G, h1, h2, -, h4, -, -, rfl⟩ := h
 refine ⟨t :: F, ⟨F, h1, h2, h4, rfl⟩, fun k hk => ?_⟩
 rcases List.mem_cons.1 hk with e | hk
 ·simp [e]
 ·simp [hk]
def OpenPost (Jk : World → List Nat → Nat → Nat → Nat → Nat → JV → Prop) (w : World) (H : List Nat) (t d n : Nat) (s : DS) (e : Ending) (w' : World) : Prop := ∃ j H', e = .returned (.pointer (some ⟨j, 0, none⟩)) ∧ Sy Jk w' H' t d j n s (openJ s) ∧ Fp H H' w w'
def ActPost (Jk : World → List Nat → Nat → Nat → Nat → Nat → JV → Prop) (w : World) (H : List Nat) (t d j n : Nat) (r : Int × DS × JV) (e : Ending) (w' : World) : Prop := e = .returned (.int .i64 r.1) ∧ ∃ H', Sy Jk w' H' t d j n r.2.1 r.2.2 ∧ Fp H H' w w'
def PictPost (w : World) (v : JV) (e : Ending) (w' : World) : Prop := ∃ A n c, e = .returned (.tuple #[.slice A n c, .bool v.has]) ∧ n ≤ c ∧ c ≤ 9223372036854775807 ∧ Rd w' A n v.pict ∧ Below w.heap.size w w'
def RecsPost (w : World) (v : JV) (e : Ending) (w' : World) : Prop := ∃ A c, e = .returned (.slice A v.recs.length c) ∧ v.recs.length ≤ c ∧ c ≤ 9223372036854775807 ∧ Rws w' A v.recs.length (rowOf v.recs) ∧ Below w.heap.size w w' ∧ ∀ (F : List Nat) (W : World), (∀ k ∈ F, k < w.heap.size) → Bar F w' W → Rws W A v.recs.length (rowOf v.recs)
end Go.Proofs.YtkbehjdglgpgjaaGreat.Journal

namespace Go.Proofs.YtkbehjdglgpgjaaGreat.Journal
open Go.RowKit Go.Proofs.YtkbehjdglgpgjaaGreat.Sha Go.Proofs.YtkbehjdglgpgjaaGreat.Disk Go.Proofs.YtkbehjdglgpgjaaGreat.Frame

structure JournalApi (Jk : World → List Nat → Nat → Nat → Nat → Nat → JV → Prop) : Prop where
 base : JournalBase Jk
 open_ : ∀ {w H t d n s}, Sd w H t d n s → Calls Tryz.prog 9 #[.pointer (some ⟨t, 0, none⟩), .pointer (some ⟨d, 0, none⟩)] w (OpenPost Jk w H t d n s)
 append : ∀ {w H t d j n s v A l c b}, Sy Jk w H t d j n s v → Rd w A l b → Off A l H → l ≤ c → c ≤ 9223372036854775807 → l ≤ 100000 → Calls Tryz.prog 11 #[.pointer (some ⟨j, 0, none⟩), .slice A l c] w (ActPost Jk w H t d j n (appendJ s v b))
 compact : ∀ {w H t d j n s v A l c b}, Sy Jk w H t d j n s v → Rd w A l b → Off A l H → l ≤ c → c ≤ 9223372036854775807 → l ≤ 100000 → Calls Tryz.prog 13 #[.pointer (some ⟨j, 0, none⟩), .slice A l c] w (ActPost Jk w H t d j n (compactJ s v b))
 picture : ∀ {w H t d j n s v}, Sy Jk w H t d j n s v → Calls Tryz.prog 24 #[.pointer (some ⟨j, 0, none⟩)] w (PictPost w v)
 records : ∀ {w H t d j n s v}, Sy Jk w H t d j n s v → Calls Tryz.prog 25 #[.pointer (some ⟨j, 0, none⟩)] w (RecsPost w v)
 gen : ∀ {w H t d j n s v}, Sy Jk w H t d j n s v → Calls Tryz.prog 26 #[.pointer (some ⟨j, 0, none⟩)] w fun e w' => e = .returned (.int .i64 v.gen) ∧ Below w.heap.size w w'
 room : ∀ {w H t d j n s v}, Sy Jk w H t d j n s v → v.dead = false → Calls Tryz.prog 27 #[.pointer (some ⟨j, 0, none⟩)] w fun e w' => e = .returned (.int .i64 (roomJ s v)) ∧ Below w.heap.size w w'
theorem open_new {n : Nat} (h1 : 1 ≤ n) (h2 : n ≤ 8192) : Keeps n (newD n) noJ ∧ openJ (newD n) = noJ ∧ Calm (newD n) := by
 have k := keeps_new (wf_new n h1 h2) (fun j hj => rowOf_replicate n j hj)
 exact ⟨k, k.open_is rfl, rfl, rfl, rfl⟩
theorem sd_new {w w1 : World} {d n : Nat} {F : List Nat} (dk : Dk w1 F d n (newD n)) (fp : Fp [] F w w1) : Sd (w1.alloc (.cells (tbl (.int .u32 0) (.int .i32 0) (.int .u32 0) 0 0) 73)) (w1.heap.size :: F) w1.heap.size d n (newD n) ∧ (∀ k ∈ w1.heap.size :: F, w.heap.size ≤ k) := by
 have hb : Bar [] w1 (w1.alloc (.cells (tbl (.int .u32 0) (.int .i32 0) (.int .u32 0) 0 0) 73)) := (Bar.refl [] w1).alloc _
 refine ⟨⟨F, .inl (Blk.new_at _ _ _ _ rfl), dk.keep hb (fun _ _ => by simp), fun hm => ?_, rfl⟩, fun k hk => ?_⟩
 ·have := dk.lts _ hm; omega
 ·rcases List.mem_cons.1 hk with rfl | hk
  ·exact fp.1.size
  ·rcases fp.2 k hk with e | e
   ·simp at e
   ·exact e
set_option maxRecDepth 100000 in
set_option maxHeartbeats 1000000 in
theorem jfirst_any {Jk : World → List Nat → Nat → Nat → Nat → Nat → JV → Prop} (api : JournalApi Jk) (w : World) : Calls Tryz.prog 4 #[] w (Holds w) := by
 obtain ⟨-, ON, -⟩ := open_new (n := 8) (by omega) (by omega)
 have cN := Kept.mk (cnew_ok w 8 (by omega) (by omega))
 go_enter Tryz.func4, Tryz.ntmps4
 go_wp2_with fail
 refine cN.out.mono ?_
 rintro e w1 ⟨d, F, rfl, dk, fp⟩
 obtain ⟨sd, hl⟩ := sd_new dk fp
 have B1 : Below w.heap.size w w1 := fp.1.below (Nat.le_refl _) (by simp)
 have SD := Kept.mk sd
 have HL := Kept.mk hl
 have B2 := Kept.mk (B1.alloc (by have := B1.size; omega) (.cells (tbl (.int .u32 0) (.int .i32 0) (.int .u32 0) 0 0) 73))
 clear cN dk fp sd hl B1
 go_wp2_with fail
 refine (newtable_any w1).mono ?_
 rintro e w2 ⟨rfl, rfl⟩
 generalize w1.alloc (.cells (tbl (.int .u32 0) (.int .i32 0) (.int .u32 0) 0 0) 73) = w2 at *
 have CO := Kept.mk (api.open_ SD.out)
 go_wp2_with fail
 refine CO.out.mono ?_
 rintro e w3 ⟨j, H, rfl, sy, fp⟩
 rw [ON] at sy
 have SY := Kept.mk sy
 have B3 := Kept.mk (B2.out.trans (fp.below (B := w.heap.size) HL.out B2.out.size))
 clear CO SD sy fp
 go_wp2_with fail
 refine (api.picture SY.out).mono ?_
 rintro e w4 ⟨A, n, c, rfl, -, -, -, b4⟩
 have SY4 := SY.out.keep api.base (barOf b4 []) (fun _ _ => by simp)
 have B4 := Kept.mk (B3.out.trans (b4.mono B3.out.size))
 have C5 := Kept.mk (api.records SY4)
 have KS := Kept.mk SY4
 rw [show noJ.has = false from rfl]
 clear SY B3 b4 SY4
 go_wp2_with fail
 refine C5.out.mono ?_
 rintro e w5 ⟨A5, c5, rfl, -, -, -, b5, -⟩
 have SY5 := KS.out.keep api.base (barOf b5 []) (fun _ _ => by simp)
 have B5 := Kept.mk (B4.out.trans (b5.mono B4.out.size))
 have C6 := Kept.mk (api.gen SY5)
 have KS5 := Kept.mk SY5
 rw [show noJ.recs.length = 0 from rfl]
 clear KS B4 b5 SY5 C5
 go_wp2_with fail
 refine C6.out.mono ?_
 rintro e w6 ⟨rfl, b6⟩
 have SY6 := KS5.out.keep api.base (barOf b6 []) (fun _ _ => by simp)
 have B6 := Kept.mk (B5.out.trans (b6.mono B5.out.size))
 have C7 := Kept.mk (api.room SY6 rfl)
 rw [show noJ.gen = 0 from rfl]
 clear KS5 B5 b6 SY6 C6
 go_wp2_with fail
 refine C7.out.mono ?_
 rintro e w7 ⟨rfl, b7⟩
 have B7 := Kept.mk (B6.out.trans (b7.mono B6.out.size))
 rw [show roomJ (newD 8) noJ = 4 from by decide]
 clear C7 B6 b7
 go_wp2
 go_ret
 exact ⟨rfl, B7.out⟩
end Go.Proofs.YtkbehjdglgpgjaaGreat.Journal
