/-
  Parts laid together: JPlay0.
-/
import Derived.Test.YtkbehjdglgpgjaaGreatPart15
import Derived.Test.YtkbehjdglgpgjaaGreatPart30
import Derived.Test.YtkbehjdglgpgjaaGreatPart32
import Derived.Test.YtkbehjdglgpgjaaGreatPart3
import Derived.Test.YtkbehjdglgpgjaaGreatPart9
import Derived.Test.YtkbehjdglgpgjaaGreatPart19
import Derived.Test.YtkbehjdglgpgjaaGreatPart33
import Derived.Test.YtkbehjdglgpgjaaGreatPart27
import Derived.Test.YtkbehjdglgpgjaaGreatPart4

namespace Go.Proofs.YtkbehjdglgpgjaaGreat.Journal
open Go.RowKit Go.Proofs.YtkbehjdglgpgjaaGreat.Sha Go.Proofs.YtkbehjdglgpgjaaGreat.Disk Go.Proofs.YtkbehjdglgpgjaaGreat.Frame

def padS (b : List Int) : List Int := b.take 64 ++ zeros64.drop (b.take 64).length
theorem padS_len (b : List Int) : (padS b).length = 64 := by
 have : zeros64.length = 64 := by simp [zeros64]
 simp only [padS, List.length_append, List.length_drop, List.length_take, this]
 omega
theorem padS_bytes {b : List Int} (h : Bytes b) : Bytes (padS b) := by
 intro x hx
 rcases List.mem_append.1 hx with e | e
 ·exact h x (List.mem_of_mem_take e)
 ·have := List.eq_of_mem_replicate (List.mem_of_mem_drop e); omega
def SectorPost (b : List Int) (w : World) (e : Ending) (w' : World) : Prop := e = .returned (.slice (some ⟨w.heap.size, 0, none⟩) 64 64) ∧ Rd w' (some ⟨w.heap.size, 0, none⟩) 64 (padS b) ∧ Below w.heap.size w w' ∧ w.heap.size < w'.heap.size
set_option maxRecDepth 100000 in
set_option maxHeartbeats 1000000 in
theorem sector_any (w : World) (A : Option Addr) (l c : Nat) (b : List Int) (r : Rd w A l b) : Calls Tryz.prog 20 #[.slice A l c] w (SectorPost b w) := by
 obtain ⟨w1, hmk, -, k1, b1⟩ := mk64 w
 obtain ⟨N, hN⟩ : ∃ N, w.heap.size = N := ⟨_, rfl⟩
 rw [hN] at k1 b1 hmk
 have R1 : Rd w1 A l b := r.below (by rw [hN]; exact b1)
 have hcs : (ints .u8 (b.take 64)).length = Nat.min l 64 := by rw [ints_len, List.length_take, r.1]; exact Nat.min_comm _ _
 have hsrc : 0 < (ints .u8 (b.take 64)).length → ∃ ad, A = some ad ∧ ∀ j v, (ints .u8 (b.take 64))[j]? = some v → w1.cell? (ad.add j) = some v := fun h0 => by
  have hl : 0 < (ints .u8 b).length := by rw [ints_len] at h0 ⊢; rw [List.length_take] at h0; omega
  obtain ⟨ad, e, hc⟩ := rd_srcs R1 hl
  refine ⟨ad, e, fun j v hj => hc j v ?_⟩
  have hjl : j < (b.take 64).length := by have := (List.getElem?_eq_some_iff.1 hj).1; rwa [ints_len] at this
  rw [Sha.ints_at _ _ _ hjl] at hj
  rw [Sha.ints_at _ _ _ (by rw [List.length_take] at hjl; omega), ← hj, at_take (by rw [List.length_take] at hjl; omega)]
 have HFIT : Kept (0 + (ints .u8 (b.take 64)).length ≤ (ints .u8 zeros64).length) := ⟨by rw [ints_len, ints_len, List.length_take]; simp only [zeros64, List.length_replicate]; omega⟩
 have HCS := Kept.mk hcs; have HSRC := Kept.mk hsrc; have K1 := Kept.mk k1; have B1 := Kept.mk b1; have RB := Kept.mk r.2.1
 have HN := Kept.mk hN
 have FIN : Kept (∀ w2 : World, Blk w2 N 5 (splice (ints .u8 zeros64) 0 (ints .u8 (b.take 64))).toArray → Bar [N] w1 w2 → SectorPost b w (.returned (.slice (some ⟨N, 0, none⟩) 64 64)) w2) := ⟨fun w2 h1 h2 => by
  have e : splice (ints .u8 zeros64) 0 (ints .u8 (b.take 64)) = ints .u8 (padS b) := by
   unfold splice padS
   rw [List.take_zero, List.nil_append, Nat.zero_add, ints_append, ints_len]
   congr 1
   simp [ints, List.map_drop]
  rw [e] at h1
  refine ⟨by rw [HN.out], ?_, ?_, ?_⟩
  ·rw [HN.out]; exact Rd.blk h1 (padS_bytes RB.out) (padS_len b)
  ·rw [HN.out]; exact B1.out.trans (h2.below (Nat.le_of_lt K1.out.lt) (by simp))
  ·rw [HN.out]; exact h1.lt⟩
 clear hcs hsrc k1 b1 R1 r hN
 go_enter Tryz.func20, Tryz.ntmps20
 go_wp2_with ((with_reducible refine sel 7 ?_); refine wpList_copy_bar rfl (.tmp 5) (.tmp 6) 38 38 rfl 5 Tryz.underlying38 (by kernel_rfl) _ _ _ _ _ _ rfl rfl N 0 (ints .u8 zeros64) 5 K1.out (ints .u8 (b.take 64)) HCS.out (fun h0 => ⟨rfl, HSRC.out h0⟩) HFIT.out (ints_one _ _) ?_; intro w2 HG HB; have F := Kept.mk (FIN.out w2 HG.out HB); clear HG HB)
 go_ret
 exact F.out
section
variable {Jk : World → List Nat → Nat → Nat → Nat → Nat → JV → Prop}
def WrPost (Jk : World → List Nat → Nat → Nat → Nat → Nat → JV → Prop) (w : World) (H : List Nat) (t d j n : Nat) (r : Int × DS) (v : JV) (e : Ending) (w' : World) : Prop := e = .returned (.int .i64 r.1) ∧ ∃ H', Sy Jk w' H' t d j n r.2 v ∧ Fp H H' w w'
theorem off_sub {A : Option Addr} {n : Nat} {H G : List Nat} (h : Off A n H) (hs : ∀ k ∈ G, k ∈ H) : Off A n G := by
 rcases h with h | ⟨g, o, e, hg⟩
 ·exact .inl h
 ·exact .inr ⟨g, o, e, fun hm => hg (hs g hm)⟩
theorem sy_write (B : JournalBase Jk) {w : World} {H : List Nat} {t d j n : Nat} {s : DS} {v : JV} (sy : Sy Jk w H t d j n s v) (i : Int) {A : Option Addr} {l c : Nat} {xs : List Int} (r : Rd w A l xs) (hO : Off A l H) : Calls Tryz.prog 19 #[.pointer (some ⟨d, 0, none⟩), .int .i64 i, .slice A l c] w (WrPost Jk w H t d j n (writeD s i xs) v) := by
 obtain ⟨F0, G, h1, h2, h3, h4, h5, h6, rfl⟩ := sy
 refine (cwrite_any i h2 r (off_sub hO (fun k hk => by simp [hk]))).mono ?_
 rintro e w' ⟨rfl, F1, k1, k2⟩
 exact ⟨rfl, sy_turn B h1 h3 h4 h5 h6 k1 k2⟩
theorem sy_down {w : World} {H : List Nat} {t d j n : Nat} {s : DS} {v : JV} (sy : Sy Jk w H t d j n s v) : Calls Tryz.prog 22 #[.pointer (some ⟨d, 0, none⟩)] w fun e w' => e = .returned (.bool s.down) ∧ w = w' := by
 obtain ⟨F0, G, h1, h2, h3, h4, h5, h6, rfl⟩ := sy
 exact cdown_any h2
theorem sy_open (api : JournalApi Jk) {w : World} {H : List Nat} {t d j n : Nat} {s : DS} {v : JV} (sy : Sy Jk w H t d j n s v) : Calls Tryz.prog 9 #[.pointer (some ⟨t, 0, none⟩), .pointer (some ⟨d, 0, none⟩)] w (OpenPost Jk w H t d n s) := by
 obtain ⟨H', sd, hs⟩ := sy.sd
 refine (api.open_ sd).mono ?_
 rintro e w' ⟨j', H2, rfl, h1, fp⟩
 exact ⟨j', H2, rfl, h1, fp.1.mono (fun x hx => .inl (hs x hx)), fun k hk => by
  rcases fp.2 k hk with e | e
  ·exact .inl (hs k e)
  ·exact .inr e⟩
end
theorem ry_turn {w w' : World} {F0 F1 G : List Nat} {x y n : Nat} {s' : DS} {v : JV} (hl : ∀ k ∈ G, k < w.heap.size) (h2 : Rj w G x y v) (h3 : Disj F0 G) (k1 : Dr w' F1 y n s') (k2 : Fp F0 F1 w w') : ∃ H', Ry w' H' x y n s' v ∧ Fp (F0 ++ G) H' w w' := by
 have hG : Disj F1 G := h3.step k2 hl
 refine ⟨F1 ++ G, ⟨F1, G, k1, h2.keep k2.1 h3.symm, hG, rfl⟩, k2.1.mono (fun x hx => .inl (by simp [hx])), fun k hk => ?_⟩
 rcases List.mem_append.1 hk with hk | hk
 ·rcases k2.2 k hk with e | e
  ·exact .inl (by simp [e])
  ·exact .inr e
 ·exact .inl (by simp [hk])
def RTurnPost (w : World) (H : List Nat) (x y n : Nat) (s' : DS) (v : JV) (e : Ending) (w' : World) : Prop := e = .returned (.tuple #[]) ∧ ∃ H', Ry w' H' x y n s' v ∧ Fp H H' w w'
theorem ry_fuse {w : World} {H : List Nat} {x y n : Nat} {s : DS} {v : JV} (ry : Ry w H x y n s v) (f : Int) (hf : f ≤ 9223372036854775807) : Calls Tryz.prog 18 #[.pointer (some ⟨y, 0, none⟩), .int .i64 f] w (RTurnPost w H x y n (fuseD s f) v) := by
 obtain ⟨F0, G, h1, h2, h3, rfl⟩ := ry
 refine (rfuse_any w F0 y n s f h1 hf).mono ?_
 rintro e w' ⟨rfl, k1, k2⟩
 exact ⟨rfl, ry_turn h2.lts h2 h3 k1 k2⟩
theorem ry_crash {w : World} {H : List Nat} {x y n : Nat} {s : DS} {v : JV} (ry : Ry w H x y n s v) {A : Option Addr} {m c : Nat} {bs : List Bool} (r : Rb w A m bs) (hO : Off A m H) : Calls Tryz.prog 16 #[.pointer (some ⟨y, 0, none⟩), .slice A m c] w (RTurnPost w H x y n (crashD s bs) v) := by
 obtain ⟨F0, G, h1, h2, h3, rfl⟩ := ry
 refine (rcrash_any w F0 y n s A m c bs h1 r (off_sub hO (fun k hk => by simp [hk]))).mono ?_
 rintro e w' ⟨rfl, F1, k1, k2⟩
 exact ⟨rfl, ry_turn h2.lts h2 h3 k1 k2⟩
def RWrPost (w : World) (H : List Nat) (x y n : Nat) (r : Int × DS) (v : JV) (e : Ending) (w' : World) : Prop := e = .returned (.int .i64 r.1) ∧ ∃ H', Ry w' H' x y n r.2 v ∧ Fp H H' w w'
theorem ry_write {w : World} {H : List Nat} {x y n : Nat} {s : DS} {v : JV} (ry : Ry w H x y n s v) (i : Int) {A : Option Addr} {l c : Nat} {xs : List Int} (r : Rd w A l xs) (hO : Off A l H) : Calls Tryz.prog 21 #[.pointer (some ⟨y, 0, none⟩), .int .i64 i, .slice A l c] w (RWrPost w H x y n (writeD s i xs) v) := by
 obtain ⟨F0, G, h1, h2, h3, rfl⟩ := ry
 refine (rwrite_any w F0 y n s i A l c xs h1 r (off_sub hO (fun k hk => by simp [hk]))).mono ?_
 rintro e w' ⟨rfl, F1, k1, k2⟩
 exact ⟨rfl, ry_turn h2.lts h2 h3 k1 k2⟩
def RNewPost (w : World) (H : List Nat) (y n : Nat) (s : DS) (e : Ending) (w' : World) : Prop := ∃ x H', e = .returned (.pointer (some ⟨x, 0, none⟩)) ∧ Ry w' H' x y n s (openJ s) ∧ Fp H H' w w'
theorem dr_open {w : World} {F : List Nat} {y n : Nat} {s : DS} (h : Dr w F y n s) : Calls Tryz.prog 10 #[.pointer (some ⟨y, 0, none⟩)] w (RNewPost w F y n s) := by
 refine (ropen_any h).mono ?_
 rintro e w' ⟨x, G, rfl, k1, k2, k3, k4⟩
 refine ⟨x, F ++ G, rfl, ⟨F, G, k1, k2, (Disj.new k3 h.lts).symm, rfl⟩, barOf k4 _, fun k hk => ?_⟩
 rcases List.mem_append.1 hk with e | e
 ·exact .inl e
 ·exact .inr (k3 k e)
theorem ry_open {w : World} {H : List Nat} {x y n : Nat} {s : DS} {v : JV} (ry : Ry w H x y n s v) : Calls Tryz.prog 10 #[.pointer (some ⟨y, 0, none⟩)] w (RNewPost w H y n s) := by
 obtain ⟨F0, G, h1, h2, h3, rfl⟩ := ry
 refine (dr_open h1).mono ?_
 rintro e w' ⟨x', H', rfl, k1, k2⟩
 refine ⟨x', H', rfl, k1, k2.1.mono (fun x hx => .inl (by simp [hx])), fun k hk => ?_⟩
 rcases k2.2 k hk with e | e
 ·exact .inl (by simp [e])
 ·exact .inr e
theorem Ry.down4 {w : World} {H : List Nat} {x y n : Nat} {s : DS} {v : JV} (h : Ry w H x y n s v) : w.cell? ⟨y, 4, none⟩ = some (.bool s.down) ∧ y ∈ H := by
 obtain ⟨F0, G, ⟨-, gn, cn, gl, cl, vp, h1, h2, h3, h4, h5, rfl⟩, -, -, rfl⟩ := h
 exact ⟨h1.cell 4, by simp⟩
theorem Ry.wf {w : World} {H : List Nat} {x y n : Nat} {s : DS} {v : JV} (h : Ry w H x y n s v) : WF n s ∧ (v.half = 0 ∨ v.half = 1) := by
 obtain ⟨F0, G, h1, h2, -, rfl⟩ := h
 exact ⟨h1.1, h2.ok.half⟩
end Go.Proofs.YtkbehjdglgpgjaaGreat.Journal
