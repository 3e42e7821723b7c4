/-
  Chapter 8: JournalSpells.
-/
import Derived.Test.YtjlhnhkjgcbnnaaGreatPart8
import Derived.Test.YtjlhnhkjgcbnnaaGreatPart9
import Derived.Test.YtjlhnhkjgcbnnaaGreatPart10
import Derived.Test.YtjlhnhkjgcbnnaaGreatPart6
import Derived.Test.YtjlhnhkjgcbnnaaGreatPart5
namespace Go.Proofs.YtjlhnhkjgcbnnaaGreat.Journal
open Go.RowKit Go.Proofs.YtjlhnhkjgcbnnaaGreat.Sha Go.Proofs.YtjlhnhkjgcbnnaaGreat.Disk Go.Proofs.YtjlhnhkjgcbnnaaGreat.Frame

/-- a table, and a new disk beside it -/
theorem sd_new2 {w w1 w2 : World} {t d n : Nat} {F : List Nat} (ht : Tab w1 t) (htw : w.heap.size ≤ t) (dk : Dk w2 F d n (newD n)) (fp : Fp [] F w1 w2) : Sd w2 (t :: F) t d n (newD n) ∧ (∀ k ∈ t :: F, w.heap.size ≤ k) := by
  have hF : ∀ k ∈ F, w1.heap.size ≤ k := fun k hk => by
    rcases fp.2 k hk with e | e
    · simp at e
    · exact e
  have htl := ftab_lt ht
  refine ⟨⟨F, ftab_bar ht fp.1 (by simp), dk, fun hm => by have := hF t hm; omega, rfl⟩, fun k hk => ?_⟩
  rcases List.mem_cons.1 hk with rfl | hk
  · exact htw
  · have := hF k hk; omega
/-- a literal of three bytes, turned into a text -/
theorem lit3 (w : World) (a b c : Int) (h : Bytes [a, b, c]) : (convert 38 38 (.slice (some ⟨w.heap.size, 0, none⟩) 3 3)).run Tryz.prog (w.alloc (.cells #[.int .u8 a, .int .u8 b, .int .u8 c] 5)) = .ok (.slice (some ⟨w.heap.size, 0, none⟩) 3 3) (w.alloc (.cells #[.int .u8 a, .int .u8 b, .int .u8 c] 5 (3, 4))) ∧
    Rd (w.alloc (.cells #[.int .u8 a, .int .u8 b, .int .u8 c] 5 (3, 4))) (some ⟨w.heap.size, 0, none⟩) 3 [a, b, c] ∧ Below w.heap.size w (w.alloc (.cells #[.int .u8 a, .int .u8 b, .int .u8 c] 5 (3, 4))) := by
  refine ⟨Lib.run_convert_bytes_const (P := Tryz.prog) w 38 5 #[.int .u8 a, .int .u8 b, .int .u8 c] 3 3 Tryz.underlying38 Tryz.underlying5, ⟨rfl, h, .inr ⟨w.heap.size, 0, rfl, fun i hi => ?_⟩⟩, (Below.refl _ _).alloc (Nat.le_refl _) _⟩
  rw [Nat.zero_add, World.cell?_alloc_mark]
  rcases (show i = 0 ∨ i = 1 ∨ i = 2 by omega) with e | e | e <;> subst e <;> rfl
/-- a call of the disk's alone, where the disk's blocks are known -/
theorem sy_turn {Jk : World → List Nat → Nat → Nat → Nat → Nat → JV → Prop} (B : JournalBase Jk) {w w' : World} {F0 F1 G : List Nat} {t d j n : Nat} {s' : DS} {v : JV} (h1 : Tab w t) (h3 : Jk w G j t d n v) (h4 : t ∉ F0) (h5 : t ∉ G) (h6 : Disj F0 G) (k1 : Dk w' F1 d n s') (k2 : Fp F0 F1 w w') : ∃ H', Sy Jk w' H' t d j n s' v ∧ Fp (t :: (F0 ++ G)) H' w w' := by
  have hG : Disj F1 G := h6.step k2 (B.lts h3)
  have ht1 : t ∉ F1 := fun hm => by
    rcases k2.2 t hm with e | e
    · exact h4 e
    · have := ftab_lt h1; omega
  refine ⟨t :: (F1 ++ G), ⟨F1, G, ftab_bar h1 k2.1 h4, k1, B.keep h3 k2.1 h6.symm, ht1, h5, hG, rfl⟩, k2.1.mono (fun x hx => .inl (by simp [hx])), fun k hk => ?_⟩
  rcases List.mem_cons.1 hk with e | hk
  · exact .inl (by simp [e])
  · rcases List.mem_append.1 hk with hk | hk
    · rcases k2.2 k hk with e | e
      · exact .inl (by simp [e])
      · exact .inr e
    · exact .inl (by simp [hk])
def TurnPost (Jk : World → List Nat → Nat → Nat → Nat → Nat → JV → Prop) (w : World) (H : List Nat) (t d j n : Nat) (s' : DS) (v : JV) (e : Ending) (w' : World) : Prop := e = .returned (.tuple #[]) ∧ ∃ H', Sy Jk w' H' t d j n s' v ∧ Fp H H' w w'
theorem sy_fuse {Jk : World → List Nat → Nat → Nat → Nat → Nat → JV → Prop} (B : JournalBase Jk) {w : World} {H : List Nat} {t d j n : Nat} {s : DS} {v : JV} (sy : Sy Jk w H t d j n s v) (f : Int) (hf : f ≤ 9223372036854775807) : Calls Tryz.prog 18 #[.pointer (some ⟨d, 0, none⟩), .int .i64 f] w (TurnPost Jk w H t d j n (fuseD s f) v) := by
  obtain ⟨F0, G, h1, h2, h3, h4, h5, h6, rfl⟩ := sy
  refine (cfuse_any f h2 hf).mono ?_
  rintro e w' ⟨rfl, F1, k1, k2⟩
  exact ⟨rfl, sy_turn B h1 h3 h4 h5 h6 k1 k2⟩
theorem sy_crash {Jk : World → List Nat → Nat → Nat → Nat → Nat → JV → Prop} (B : JournalBase Jk) {w : World} {H : List Nat} {t d j n : Nat} {s : DS} {v : JV} (sy : Sy Jk w H t d j n s v) {A : Option Addr} {m c : Nat} {bs : List Bool} (r : Rb w A m bs) (hO : Off A m H) : Calls Tryz.prog 16 #[.pointer (some ⟨d, 0, none⟩), .slice A m c] w (TurnPost Jk w H t d j n (crashD s bs) v) := by
  obtain ⟨F0, G, h1, h2, h3, h4, h5, h6, rfl⟩ := sy
  refine (ccrash_any h2 r ?_).mono ?_
  · rcases hO with h | ⟨g, o, e, hg⟩
    · exact .inl h
    · exact .inr ⟨g, o, e, fun hm => hg (by simp [hm])⟩
  rintro e w' ⟨rfl, F1, k1, k2⟩
  exact ⟨rfl, sy_turn B h1 h3 h4 h5 h6 k1 k2⟩
theorem like_self {L : List (List Int)} {n m : Nat} {X Y : Nat → List Int} (hn : n = L.length) (hm : m = L.length) (hX : ∀ i, i < n → X i = L.getD i []) (hY : ∀ i, i < n → Y i = L.getD i []) : likeB n m X Y = true := by
  unfold likeB
  rw [decide_eq_true_eq]
  exact ⟨by omega, fun i hi => by rw [hX i hi, hY i hi]⟩
theorem info_rowS : (Tryz.prog.info? 38).map (fun i => (i.zero, i.size, i.bytes)) = some (some (.slice none 0 0), 1, 24) := by kernel_rfl
theorem own_cell (w : World) (T : TypeId) (u : Value) : (w.alloc (.cells #[u] T)).ownsRow w.heap.size T 1 (.slice (some ⟨w.heap.size, 0, none⟩) 1 1) 1 [u] :=
  ⟨rfl, .inr ⟨w.heap.size, 1, #[u], rfl, Nat.le_refl _, heap_alloc_new w _, Nat.le_refl _, by unfold maxLen; omega, rfl, by simp⟩⟩
theorem og_one {w : World} {T : TypeId} {A : Option Addr} {l c : Nat} {b : List Int} {G : List Nat} (hr : Rd w A l b) (hc : l ≤ c) (hcm : c ≤ 9223372036854775807) (hin : In A l G) (hG : w.heap.size ∈ G) : Og (w.alloc (.cells #[.slice A l c] T)) T (.slice (some ⟨w.heap.size, 0, none⟩) 1 1) [b] G := by
  refine ⟨[.slice A l c], ⟨rfl, .inr ⟨w.heap.size, 1, #[.slice A l c], rfl, Nat.zero_le _, heap_alloc_new w _, Nat.le_refl _, by unfold maxLen; omega, rfl, by simp⟩⟩, fun g hg => by simp [Value.ownBlock] at hg; subst hg; exact hG, fun i hi => ?_⟩
  obtain rfl : i = 0 := by simpa using hi
  exact ⟨A, l, c, rfl, hc, hcm, hr.below ((Below.refl _ _).alloc (Nat.le_refl _) _), hin, hr.off (fun k hk => by simp [Value.ownBlock] at hk; omega)⟩
theorem in_of_off {w : World} {A : Option Addr} {n : Nat} {xs : List Int} {H : List Nat} {B : Nat} (r : Rd w A n xs) (h : Off A n H) (h2 : ∀ G : List Nat, (∀ k ∈ G, k < B) → Off A n G) : ∃ K, In A n K ∧ Disj K H ∧ (∀ k ∈ K, k < w.heap.size) ∧ ∀ k ∈ K, B ≤ k := by
  by_cases h0 : n = 0
  · exact ⟨[], .inl h0, fun _ h => by simp at h, by simp, by simp⟩
  · obtain ⟨g, o, rfl, hg⟩ := h.resolve_left h0
    obtain ⟨b, o', e, hc⟩ := r.2.2.resolve_left h0
    injection e with e; injection e with e1 e2
    subst e1
    exact ⟨[g], .inr ⟨g, o, rfl, by simp⟩, fun k hk hm => by rw [List.mem_singleton] at hk; subst hk; exact hg hm, fun k hk => by rw [List.mem_singleton] at hk; subst hk; exact World.block_lt_of_cell? _ _ (hc 0 (by omega)), fun k hk => by
      rw [List.mem_singleton] at hk; subst hk
      by_cases hlt : B ≤ k
      · exact hlt
      · obtain ⟨g', o2, e2, hg2⟩ := (h2 [k] (fun q hq => by rw [List.mem_singleton] at hq; omega)).resolve_left h0
        injection e2 with e2; injection e2 with e3 e4
        subst e3
        exact absurd (by simp) hg2⟩
theorem ot_one {w : World} {T : TypeId} {A : Option Addr} {l c : Nat} {b : List Int} (hr : Rd w A l b) (hc : l ≤ c) (hcm : c ≤ 9223372036854775807) : Ot (w.alloc (.cells #[.slice A l c] T)) w.heap.size T (.slice (some ⟨w.heap.size, 0, none⟩) 1 1) [b] := by
  refine ⟨[.slice A l c], own_cell w T _, fun i hi => ?_⟩
  obtain rfl : i = 0 := by simpa using hi
  exact ⟨A, l, c, rfl, hc, hcm, hr.below ((Below.refl _ _).alloc (Nat.le_refl _) _), hr.off (fun k hk => by simp [Value.ownBlock] at hk; omega)⟩
theorem make_own (w : World) (n : Nat) (hn : n ≤ 400) : ∃ w', (Instr.makeSlice 38 (.int .i64 (n : Int)) (.int .i64 (n : Int))).run Tryz.prog w = .ok (.slice (some ⟨w.heap.size, 0, none⟩) n n) w' ∧ Kept (w'.ownsRow w.heap.size 5 1 (.slice (some ⟨w.heap.size, 0, none⟩) n n) n (ints .u8 (List.replicate n 0))) ∧ Below w.heap.size w w' := by
  obtain ⟨iu, hi, hz0, hz1, hz2⟩ := info_parts info_u8
  obtain ⟨w', hm, own, gr⟩ := run_makeSlice_full (P := Tryz.prog) w w.heap.size 38 5 iu _ 1 Tryz.underlying38 hi hz0 hz1 .i64 .i64 n (by omega) (by rw [hz2]; omega) (by unfold maxLen; omega) (Nat.le_refl _)
  refine ⟨w', hm, ⟨?_⟩, ⟨gr.os, gr.tape, gr.output, gr.size, fun k hk => gr.block k hk (by simp)⟩⟩
  have e : (madeCells (Value.int .u8 0).cells (n * 1)).toList = ints .u8 (List.replicate n 0) := by
    rw [show (Value.int .u8 0).cells = #[.int .u8 0] from rfl, toList_madeCells_one, Nat.mul_one]
    simp [ints]
  rw [e] at own
  exact own
/-- a call of the journal's behind which it lives on -/
theorem act_fp {w w1 w2 : World} {H H' : List Nat} (B : Kept (Below w.heap.size w w1)) (f : Fp H H' w1 w2) (hH : Kept (∀ k ∈ H, w.heap.size ≤ k)) : Kept (Below w.heap.size w w2) ∧ Kept (∀ k ∈ H', w.heap.size ≤ k) := step_fp B f hH

set_option maxRecDepth 100000 in
set_option maxHeartbeats 8000000 in
theorem spells_walk {Jk : World → List Nat → Nat → Nat → Nat → Nat → JV → Prop} (api : JournalApi Jk) (A : Option Addr) (l c : Nat) (body : List Int) (kind gen seq pad fuse : Int) (Ak : Option Addr) (mk ck : Nat) (keep : List Bool) (w : World) (rd : Rd w A l body) (rk : Rb w Ak mk keep) :
    Calls Tryz.prog 4 #[.slice A l c, .int .i64 kind, .int .i64 gen, .int .i64 seq, .int .i64 pad, .int .i64 fuse, .slice Ak mk ck] w (Holds w) := by
  obtain ⟨-, ON, -⟩ := open_new (n := 100) (by omega) (by omega)
  have ONK := Kept.mk ON
  have RDB := Kept.mk rd
  have RDK := Kept.mk rk
  have CP : Kept (∀ W, Rd W A l body → Calls Tryz.prog 25 #[.agg #[.int .i64 kind, .int .i64 gen, .int .i64 seq, .slice A l c]] W (RPutNew ⟨kind, gen, seq, body⟩ W)) := ⟨fun W hW => rput_new ⟨kind, gen, seq, body⟩ A l c W hW⟩
  have C0 := Kept.mk (jfirst_any api w)
  have hlb := rd.1
  clear rd rk ON
  go_enter Tryz.func4, Tryz.ntmps4
  go_wp2_with fail
  refine C0.out.mono ?_
  rintro e w1 ⟨rfl, b1⟩
  have HB1 := Kept.mk b1
  have C1 := Kept.mk (jfirst_any api w1)
  clear C0 b1
  by_cases g1 : 500 < l
  · have g1' : (500 : Int) < (l : Int) := by omega
    clear RDB RDK CP
    go_wp2_with fail
    refine C1.out.mono ?_
    rintro e w2 ⟨rfl, b2⟩
    have HB2 := Kept.mk (HB1.out.trans (b2.mono HB1.out.size))
    clear C1 b2
    go_wp2
    go_ret
    exact ⟨rfl, HB2.out⟩
  have g1' : ((500 : Int) < (l : Int)) = False := eq_false (by omega)
  by_cases g2 : pad < 0
  · clear ONK
    clear RDB RDK CP
    go_wp2_with fail
    refine C1.out.mono ?_
    rintro e w2 ⟨rfl, b2⟩
    have HB2 := Kept.mk (HB1.out.trans (b2.mono HB1.out.size))
    clear C1 b2
    go_wp2
    go_ret
    exact ⟨rfl, HB2.out⟩
  have g2' : (pad < 0) = False := eq_false g2
  by_cases g3 : 130 < pad
  · clear ONK
    clear RDB RDK CP
    go_wp2_with fail
    refine C1.out.mono ?_
    rintro e w2 ⟨rfl, b2⟩
    have HB2 := Kept.mk (HB1.out.trans (b2.mono HB1.out.size))
    clear C1 b2
    go_wp2
    go_ret
    exact ⟨rfl, HB2.out⟩
  have g3' : (130 < pad) = False := eq_false g3
  by_cases g4 : fuse < 0
  · clear ONK
    clear RDB RDK CP
    go_wp2_with fail
    refine C1.out.mono ?_
    rintro e w2 ⟨rfl, b2⟩
    have HB2 := Kept.mk (HB1.out.trans (b2.mono HB1.out.size))
    clear C1 b2
    go_wp2
    go_ret
    exact ⟨rfl, HB2.out⟩
  have g4' : (fuse < 0) = False := eq_false g4
  by_cases g5 : 20 < fuse
  · clear ONK
    clear RDB RDK CP
    go_wp2_with fail
    refine C1.out.mono ?_
    rintro e w2 ⟨rfl, b2⟩
    have HB2 := Kept.mk (HB1.out.trans (b2.mono HB1.out.size))
    clear C1 b2
    go_wp2
    go_ret
    exact ⟨rfl, HB2.out⟩
  have g5' : (20 < fuse) = False := eq_false g5
  by_cases g6 : 100 < mk
  · have g6' : (100 : Int) < (mk : Int) := by omega
    clear RDB RDK CP
    go_wp2_with fail
    refine C1.out.mono ?_
    rintro e w2 ⟨rfl, b2⟩
    have HB2 := Kept.mk (HB1.out.trans (b2.mono HB1.out.size))
    clear C1 b2
    go_wp2
    go_ret
    exact ⟨rfl, HB2.out⟩
  have g6' : ((100 : Int) < (mk : Int)) = False := eq_false (by omega)
  clear C1
  obtain ⟨sp, fe, hsp⟩ : ∃ sp fe, putF (⟨kind, gen, seq, body⟩ : FV) = (fe, sp) := ⟨_, _, rfl⟩
  have HSP : Kept (sp.length ≤ 576 ∧ (fe = 0 ∨ sp = []) ∧ Bytes sp) := ⟨by
    have h1 : fe = errF ⟨kind, gen, seq, body⟩ := (congrArg Prod.fst hsp).symm
    have h2 : (if errF ⟨kind, gen, seq, body⟩ = 0 then laid (textF ⟨kind, gen, seq, body⟩) else []) = sp := congrArg Prod.snd hsp
    by_cases h0 : errF ⟨kind, gen, seq, body⟩ = 0
    · rw [if_pos h0] at h2
      have h3 := put_len ⟨kind, gen, seq, body⟩
      rw [h2] at h3
      have h4 : kF body ≤ 9 := by unfold kF; omega
      refine ⟨?_, .inl (by rw [h1, h0]), ?_⟩
      · rw [h3]; show 64 * kF body ≤ 576; omega
      · rw [← h2]; exact put_bytes (f := ⟨kind, gen, seq, body⟩) RDB.out.2.1
    · rw [if_neg h0] at h2
      subst h2
      exact ⟨by simp, .inr rfl, by intro x hx; cases hx⟩⟩
  go_wp2_with fail
  refine (newtable_any w1).mono ?_
  rintro e w2 ⟨rfl, rfl⟩
  have ht2 : Tab (w1.alloc (.cells (tbl (.int .u32 0) (.int .i32 0) (.int .u32 0) 0 0) 79)) w1.heap.size := .inl (Blk.new_at _ _ _ _ rfl)
  have HB2 : Kept (Below w.heap.size w (w1.alloc (.cells (tbl (.int .u32 0) (.int .i32 0) (.int .u32 0) 0 0) 79))) := ⟨HB1.out.alloc HB1.out.size _⟩
  obtain ⟨t, htt⟩ : ∃ t, w1.heap.size = t := ⟨_, rfl⟩
  have htw : w.heap.size ≤ t := by rw [← htt]; exact HB1.out.size
  rw [htt] at ht2 ⊢
  have HT2 := Kept.mk ht2
  clear ht2 htt HB1
  generalize w1.alloc (.cells (tbl (.int .u32 0) (.int .i32 0) (.int .u32 0) 0 0) 79) = w2 at *
  have CN := Kept.mk (cnew_ok w2 100 (by omega) (by omega))
  go_wp2_with fail
  refine CN.out.mono ?_
  rintro e w3 ⟨d, F, rfl, dk, fp⟩
  obtain ⟨sd, hl⟩ := sd_new2 (w := w) HT2.out htw dk fp
  have HB3 : Kept (Below w.heap.size w w3) := ⟨HB2.out.trans ((fp.1.below (B := w2.heap.size) (Nat.le_refl _) (by simp)).mono HB2.out.size)⟩
  have SD := Kept.mk sd
  have HL := Kept.mk hl
  clear CN dk fp sd hl HT2 HB2
  have CO := Kept.mk (api.open_ SD.out)
  go_wp2_with fail
  refine CO.out.mono ?_
  rintro e w4 ⟨j, H, rfl, sy, fp⟩
  rw [ONK.out] at sy
  obtain ⟨HB4, HL4⟩ := act_fp HB3 fp HL
  have SY4 := Kept.mk sy
  clear CO SD sy fp HB3 HL
  obtain ⟨s1, one1, one2, one3⟩ := spells_one
  obtain ⟨hcv, r5, b5⟩ := lit3 w4 111 110 101 oneL_bytes
  have SY5 := SY4.out.keep api.base (barOf b5 []) (fun _ _ => by simp)
  have HB5 := Kept.mk (HB4.out.trans (b5.mono HB4.out.size))
  have CA := Kept.mk (api.append SY5 r5 (new_off (SY4.out.lts api.base)) (Nat.le_refl 3) (by omega) (by omega))
  rw [show ([111, 110, 101] : List Int) = oneL from rfl, one1] at CA
  clear SY4 r5 b5 SY5 HB4 one1
  go_wp2_with fail
  refine CA.out.mono ?_
  clear hcv
  rintro e w6 ⟨rfl, H6, sy, fp⟩
  obtain ⟨HB6, HL6⟩ := act_fp HB5 fp HL4
  have SY6 := Kept.mk sy
  clear CA sy fp HB5 HL4
  have CP6 := Kept.mk (CP.out w6 (RDB.out.below HB6.out))
  go_wp2_with fail
  refine CP6.out.mono ?_
  rintro e w7 ⟨A7, n7, c7, rfl, hn7, hc7, r7, b7, o7⟩
  rw [hsp] at r7 ⊢
  simp only at r7 ⊢
  have SY7 := Kept.mk (SY6.out.keep api.base (barOf b7 []) (fun _ _ => by simp))
  have HB7 := Kept.mk (HB6.out.trans (b7.mono HB6.out.size))
  have R7 := Kept.mk r7
  have hl7 := r7.1
  have hsl := HSP.out.1
  obtain ⟨pn, rfl⟩ : ∃ pn : Nat, pad = (pn : Int) := ⟨pad.toNat, by omega⟩
  obtain ⟨w8, hmk, o8, b8⟩ := make_own w7 pn (by omega)
  have hpn : pn ≤ 130 := by omega
  have hn79 : n7 ≤ 576 := by omega
  have sz8 : w7.heap.size ≤ w8.heap.size := b8.size
  have B8 := Kept.mk b8
  clear CP6 CP b7 o7 r7 SY6 HB6 b8 g2' g3' hsp
  go_upto_region 14 with ((with_reducible refine sel 89 ?_); refine wpList_append_rd rfl (.tmp 87) (.tmp 88) 38 rfl w7.heap.size 5 Tryz.underlying38 info_u8 (.slice (some ⟨w7.heap.size, 0, none⟩) pn pn) pn _ rfl o8.out A7 n7 c7 sp rfl (R7.out.below B8.out) (by omega) sz8 ?_; intro v9 w9 o9 g9; have B9 := Kept.mk (B8.out.trans (own_below o8.out g9 sz8)); clear g9)
  have sz9 : w7.heap.size ≤ w9.heap.size := B9.out.size
  clear o8 B8 hmk sz8
  obtain ⟨A9, c9, hv9⟩ := own_shape o9.out
  subst hv9
  go_upto_region 15 with ((with_reducible refine sel 92 ?_); refine wpList_append_rd rfl (.tmp 90) (.tmp 91) 38 rfl w7.heap.size 5 Tryz.underlying38 info_u8 (.slice A9 (pn + n7) c9) (pn + n7) _ rfl o9.out A7 n7 c7 sp rfl (R7.out.below B9.out) (by omega) sz9 ?_; intro v10 w10 o10 g10; have B10 := Kept.mk (B9.out.trans (own_below o9.out g10 sz9)); clear g10)
  clear B9 o9 sz9
  obtain ⟨long, hlong⟩ : ∃ long, List.replicate pn 0 ++ sp ++ sp = long := ⟨_, rfl⟩
  have o10' := o10.out
  rw [← ints_append, ← ints_append, hlong] at o10'
  have HLB : Bytes long := by
    rw [← hlong]
    exact ((show Bytes (List.replicate pn 0) from fun x hx => by have := List.eq_of_mem_replicate hx; omega).append HSP.out.2.2).append HSP.out.2.2
  obtain ⟨A10, c10, rfl, p1, p2, p3⟩ := own_rd o10' HLB
  obtain ⟨ln, hln⟩ : ∃ q, pn + n7 + n7 = q := ⟨_, rfl⟩
  have hln9 : ln ≤ 1282 := by omega
  rw [hln] at p1 p3 ⊢
  have RL := Kept.mk p3
  have offL : Kept (∀ G : List Nat, (∀ k ∈ G, k < w7.heap.size) → Off A10 ln G) := ⟨fun G hG => by
    rw [← hln]
    exact own_off o10' (fun q hq hm => by
      have := (o10'.lt q (by simpa using hq)).1
      have := hG q hm
      omega)⟩
  have SY10 := Kept.mk (SY7.out.keep api.base (barOf B10.out []) (fun _ _ => by simp))
  have HB10 := Kept.mk (HB7.out.trans (B10.out.mono HB7.out.size))
  have OFW : Kept (∀ G : List Nat, (∀ k ∈ G, k < w.heap.size) → Off A10 ln G) := ⟨fun G hG => offL.out G (fun k hk => Nat.lt_of_lt_of_le (hG k hk) HB7.out.size)⟩
  have OFL : Kept (Off A10 ln H6) := ⟨offL.out _ (SY7.out.lts api.base)⟩
  clear o10 o10' hlong hln p3 offL SY7 HB7 B10 R7
  have CF := Kept.mk (sy_fuse api.base SY10.out fuse (by omega))
  go_wp2_with fail
  refine CF.out.mono ?_
  rintro e w11 ⟨rfl, H11, sy, fp⟩
  obtain ⟨HB11, HL11⟩ := act_fp HB10 fp HL6
  have SY11 := Kept.mk sy
  have RL11 := Kept.mk (RL.out.far fp.1 OFL.out)
  have OFL11 := Kept.mk (OFL.out.step RL.out fp)
  clear CF sy fp HB10 HL6 SY10 OFL RL
  obtain ⟨v2, hsps⟩ := spells_crash one2 one3 HLB fuse (by omega) keep
  have CA2 := Kept.mk (api.append SY11.out RL11.out OFL11.out p1 p2 (by omega))
  obtain ⟨gg, sA, vA, hA⟩ : ∃ gg sA vA, appendJ (fuseD s1 fuse) v1J long = (gg, sA, vA) := ⟨_, _, _, rfl⟩
  rw [hA] at CA2 hsps
  have SPS := Kept.mk hsps
  clear hsps hA SY11
  go_wp2_with fail
  refine CA2.out.mono ?_
  rintro e w12 ⟨rfl, H12, sy, fp⟩
  obtain ⟨HB12, HL12⟩ := act_fp HB11 fp HL11
  have RL12 := Kept.mk (RL11.out.far fp.1 OFL11.out)
  have OFL12 := Kept.mk (OFL11.out.step RL11.out fp)
  have SY12 := Kept.mk sy
  simp only at SY12 SPS
  clear CA2 sy fp HB11 HL11 RL11 OFL11
  have CC := Kept.mk (sy_crash (c := ck) api.base SY12.out (RDK.out.below HB12.out) (RDK.out.off HL12.out))
  go_wp2_with fail
  refine CC.out.mono ?_
  rintro e w13 ⟨rfl, H13, sy, fp⟩
  obtain ⟨HB13, HL13⟩ := act_fp HB12 fp HL12
  have RL13 := Kept.mk (RL12.out.far fp.1 OFL12.out)
  have OFL13 := Kept.mk (OFL12.out.step RL12.out fp)
  obtain ⟨HS, sd, hsub⟩ := sy.sd
  have SD13 := Kept.mk sd
  have HL13s : Kept (∀ k ∈ HS, w.heap.size ≤ k) := ⟨fun k hk => HL13.out k (hsub k hk)⟩
  have OFLs : Kept (Off A10 ln HS) := ⟨by
    rcases OFL13.out with h | ⟨g, o, e, hg⟩
    · exact .inl h
    · exact .inr ⟨g, o, e, fun hm => hg (hsub g hm)⟩⟩
  obtain ⟨cD, hcD⟩ : ∃ q, crashD sA keep = q := ⟨_, rfl⟩
  rw [hcD] at SD13 SPS
  clear CC sy sd hsub fp HB12 HL12 RL12 OFL12 SY12 RDK hcD OFL13 HL13
  have CO2 := Kept.mk (api.open_ SD13.out)
  go_wp2_with fail
  refine CO2.out.mono ?_
  rintro e w14 ⟨j2, H14, rfl, sy, fp⟩
  rw [SPS.out.2.2.1] at sy
  obtain ⟨HB14, HL14⟩ := act_fp HB13 fp HL13s
  have RL14 := Kept.mk (RL13.out.far fp.1 OFLs.out)
  have OFL14 := OFLs.out.step RL13.out fp
  obtain ⟨KL, inL, dKL, ltKL, geKL⟩ := in_of_off RL14.out OFL14 OFW.out
  have HIN := Kept.mk (And.intro inL (And.intro dKL ltKL))
  have HBW0 : Kept (w.heap.size ≤ w14.heap.size) := ⟨HB14.out.size⟩
  have KLW : Kept (∀ k ∈ KL, w.heap.size ≤ k) := ⟨geKL⟩
  clear geKL OFW
  have HLT14 : Kept (∀ k ∈ H14, k < w14.heap.size) := ⟨sy.lts api.base⟩
  clear OFL14 inL dKL ltKL
  have SY14 := Kept.mk sy
  clear CO2 sy fp HB13 HL13s RL13 OFLs SD13
  obtain ⟨hcv, r15, b15⟩ := lit3 w14 111 110 101 oneL_bytes
  have OT := Kept.mk (og_one (T := 38) (G := w14.heap.size :: (w14.heap.size + 1) :: KL) r15 (Nat.le_refl 3) (by omega) (.inr ⟨w14.heap.size, 0, rfl, by simp⟩) (by simp))
  have b16 : Below w14.heap.size w14 ((w14.alloc (.cells #[.int .u8 111, .int .u8 110, .int .u8 101] 5 (3, 4))).alloc (.cells #[.slice (some ⟨w14.heap.size, 0, none⟩) 3 3] 38)) := b15.alloc b15.size _
  have SY16 := Kept.mk (SY14.out.keep api.base (barOf b16 []) (fun _ _ => by simp))
  have HB16 := Kept.mk (HB14.out.trans (b16.mono HB14.out.size))
  have RL16 := Kept.mk (RL14.out.below b16)
  have hs16 : (w14.alloc (.cells #[.int .u8 111, .int .u8 110, .int .u8 101] 5 (3, 4))).heap.size = w14.heap.size + 1 := by simp
  have OFT : Kept (Off A10 ln [w14.heap.size + 1]) := ⟨RL14.out.off (fun k hk => by rw [List.mem_singleton] at hk; omega)⟩
  rw [hs16] at OT
  obtain ⟨BW, hBW⟩ : ∃ q, w14.heap.size + 1 = q := ⟨_, rfl⟩
  rw [hBW] at OT OFT
  clear r15 b15 b16 SY14 HB14 RL14
  have CR := Kept.mk (api.records SY16.out)
  go_upto_region 22 with (fail)
  clear hcv hs16
  generalize ((w14.alloc (.cells #[.int .u8 111, .int .u8 110, .int .u8 101] 5 (3, 4))).alloc (.cells #[.slice (some ⟨w14.heap.size, 0, none⟩) 3 3] 38)) = w16 at *
  obtain ⟨hhas, hrecs⟩ := SPS.out.recs
  have VL : Kept (v2.recs = [oneL] ∨ v2.recs = [oneL, long]) := ⟨hrecs.imp (fun h => h.1) id⟩
  obtain ⟨s3, tw1, tw2⟩ := spells_two SPS.out (by have := RL16.out.1; omega)
  have TW2 := Kept.mk tw2
  have HBW : Kept (BW < w16.heap.size) := ⟨by
    obtain ⟨cs, ho, -⟩ := OT.out
    exact (ho.lt BW rfl).2⟩
  have HWB : Kept (w14.heap.size + 1 = BW) := ⟨hBW⟩
  have GW0 : Kept (∀ k ∈ w14.heap.size :: BW :: KL, w.heap.size ≤ k) := ⟨fun k hk => by
    have h0 := HBW0.out
    simp only [List.mem_cons] at hk
    rcases hk with e | e | e
    · omega
    · omega
    · exact KLW.out k e⟩
  have DG : Kept (Disj (w14.heap.size :: BW :: KL) H14) := ⟨fun k hk hm => by
    have h1 := HLT14.out k hm
    simp only [List.mem_cons] at hk
    rcases hk with e | e | e
    · omega
    · omega
    · exact HIN.out.2.1 k e hm⟩
  clear SPS tw2
  go_wp2_with fail
  refine CR.out.mono ?_
  rintro e w17 ⟨A17, c17, rfl, hn17, hc17, rw17, b17, nw17⟩
  have NW17 := Kept.mk nw17
  have szB : BW < w16.heap.size := HBW.out
  have OT17 := Kept.mk (OT.out.keep (barOf b17 []) (fun _ _ => by simp))
  have SY17 := Kept.mk (SY16.out.keep api.base (barOf b17 []) (fun _ _ => by simp))
  have HB17 := Kept.mk (HB16.out.trans (b17.mono HB16.out.size))
  have RL17 := Kept.mk (RL16.out.below b17)
  have RW17 := Kept.mk rw17
  have hszB : BW < w17.heap.size := by have := szB; have := b17.size; omega
  have hsz17 : w14.heap.size ≤ w17.heap.size := by have := HBW.out; have := b17.size; omega
  have hfe : fe = 0 ∨ n7 = 0 := by
    rcases HSP.out.2.1 with h | h
    · exact .inl h
    · right; rw [← hl7, h]; rfl
  clear CR OT SY16 HB16 RL16 rw17 b17 HBW nw17
  rcases hrecs with ⟨hr, hg⟩ | hr
  · have hg' : (gg == 0) = false := by simpa using hg
    have hlen : v2.recs.length = 1 := by rw [hr]; rfl
    have OW : Kept (Og w17 38 (.slice (some ⟨BW, 0, none⟩) 1 1) v2.recs (w14.heap.size :: BW :: KL)) := ⟨by rw [hr]; exact OT17.out⟩
    have hpl : v2.recs.length ≤ 2 := by omega
    rw [hlen] at RW17 NW17 hn17 ⊢
    have HR1 := Kept.mk hr
    clear hr hg OT17 RL17 OFT
    go_upto_region 25 with (fail)
    have hlen' := hlen
    have HLEN := Kept.mk hlen
    have RWn := RW17
    have SYn := SY17
    have HBn := HB17
    have DW := DG
    have GWL : Kept (∀ k ∈ w14.heap.size :: BW :: KL, k < w17.heap.size) := ⟨fun k hk => by
      have h2 := NW17
      simp only [List.mem_cons] at hk
      rcases hk with e | e | e
      · omega
      · omega
      · have := HIN.out.2.2 k e; omega⟩
    have GWW : Kept (∀ k ∈ w14.heap.size :: BW :: KL, w.heap.size ≤ k) := GW0
    clear hlen hlen' RW17 SY17 HB17 DG NW17
    obtain ⟨Aq, cq, hq, -, -, rwQ⟩ := OW.out.rws
    injection hq with e1 e2 e3
    subst e1 e3
    have CLs := lists_any A17 (some ⟨BW, 0, none⟩) 1 v2.recs.length c17 1 (rowOf v2.recs) (fun i => v2.recs.getD i []) w17 RWn.out rwQ (by omega)
    rw [like_self (L := v2.recs) (n := 1) (m := v2.recs.length) (X := rowOf v2.recs) (Y := fun i => v2.recs.getD i []) HLEN.out.symm rfl (fun _ _ => rfl) (fun _ _ => rfl), HLEN.out] at CLs
    have CL2 := Kept.mk CLs
    clear CLs rwQ RWn e2
    go_wp2_with fail
    refine CL2.out.mono ?_
    rintro e wL ⟨rfl, bL⟩
    have SYl := Kept.mk (SYn.out.keep api.base (barOf bL []) (fun _ _ => by simp))
    have OWl := Kept.mk (OW.out.keep (barOf bL []) (fun _ _ => by simp))
    have HBl := Kept.mk (HBn.out.trans (bL.mono HBn.out.size))
    have szL : w17.heap.size ≤ wL.heap.size := bL.size
    clear CL2 SYn OW HBn bL
    obtain ⟨hcv2, r2, b2⟩ := lit3 wL 116 119 111 twoL_bytes
    have SYm := SYl.out.keep api.base (barOf b2 []) (fun _ _ => by simp)
    have OWm := Kept.mk (OWl.out.keep (barOf b2 []) (fun _ _ => by simp))
    have HBm := Kept.mk (HBl.out.trans (b2.mono HBl.out.size))
    have CA3 := Kept.mk (api.append SYm r2 (new_off (SYl.out.lts api.base)) (Nat.le_refl 3) (by omega) (by omega))
    rw [show ([116, 119, 111] : List Int) = twoL from rfl, tw1] at CA3
    have szM := b2.size
    clear r2 SYm SYl OWl HBl b2 tw1
    go_wp2_with fail
    refine CA3.out.mono ?_
    clear hcv2
    rintro e wA ⟨rfl, H5, sy, fp⟩
    simp only at sy
    obtain ⟨HBp, HL5⟩ := act_fp HBm fp HL14
    have OWp := Kept.mk (OWm.out.keep fp.1 DW.out)
    have DWp : Disj (w14.heap.size :: BW :: KL) H5 := (DW.out.symm.step fp (fun k hk => by have := GWL.out k hk; omega)).symm
    obtain ⟨HS5, sd5, hsub5⟩ := sy.sd
    have SD5 := Kept.mk sd5
    have HLs5 : Kept (∀ k ∈ HS5, w.heap.size ≤ k) := ⟨fun k hk => HL5.out k (hsub5 k hk)⟩
    have DWs : Kept (Disj (w14.heap.size :: BW :: KL) HS5) := ⟨fun k hk hk2 => DWp k hk (hsub5 k hk2)⟩
    have szP := fp.1.size
    have CO5 := Kept.mk (api.open_ SD5.out)
    clear CA3 sy fp HBm OWm DWp sd5 hsub5 HL5 DW
    go_wp2_with fail
    refine CO5.out.mono ?_
    rintro e wO ⟨j3, H7, rfl, sy, fp⟩
    rw [TW2.out] at sy
    obtain ⟨HBq, HL7⟩ := act_fp HBp fp HLs5
    have OWq := Kept.mk (OWp.out.keep fp.1 DWs.out)
    have SYq := Kept.mk sy
    have szQ := fp.1.size
    have CPi := Kept.mk (api.picture SYq.out)
    clear CO5 sy fp HBp HLs5 OWp DWs SD5
    go_wp2_with fail
    refine CPi.out.mono ?_
    rintro e wP ⟨AP, nP, cP, rfl, -, -, -, bP⟩
    rw [show (plusJ v2 twoL).has = false from hhas]
    have OWr := Kept.mk (OWq.out.keep (barOf bP []) (fun _ _ => by simp))
    have SYr := Kept.mk (SYq.out.keep api.base (barOf bP []) (fun _ _ => by simp))
    have HBr := Kept.mk (HBq.out.trans (bP.mono HBq.out.size))
    have szR := bP.size
    have CFi := Kept.mk (jfirst_any api wP)
    clear CPi OWq SYq HBq bP
    go_wp2_with fail
    refine CFi.out.mono ?_
    rintro e wF ⟨rfl, bF⟩
    have OWs := Kept.mk (OWr.out.keep (barOf bF []) (fun _ _ => by simp))
    have SYs := Kept.mk (SYr.out.keep api.base (barOf bF []) (fun _ _ => by simp))
    have HBs := Kept.mk (HBr.out.trans (bF.mono HBr.out.size))
    have szS := bF.size
    have CRe := Kept.mk (api.records SYs.out)
    clear CFi OWr SYr HBr bF
    obtain ⟨n31, hn31⟩ : ∃ q, (plusJ v2 twoL).recs.length = q := ⟨_, rfl⟩
    have HN31 := Kept.mk hn31
    go_wp2_with fail
    refine CRe.out.mono ?_
    rintro e wR ⟨A31, c31, rfl, hy1, hy2, -, bR, nR⟩
    have OWt := Kept.mk (OWs.out.keep (barOf bR []) (fun _ _ => by simp))
    have HBt := Kept.mk (HBs.out.trans (bR.mono HBs.out.size))
    have szT := bR.size
    have NR := Kept.mk nR
    rw [hn31] at hy1 NR ⊢
    clear CRe OWs SYs HBs bR nR hn31
    obtain ⟨hcv3, r3, b3⟩ := lit3 wR 116 119 111 twoL_bytes
    have bb3 : Bar [] wR ((wR.alloc (.cells #[.int .u8 116, .int .u8 119, .int .u8 111] 5 (3, 4))).alloc (.cells #[.slice (some ⟨wR.heap.size, 0, none⟩) 3 3] 38)) := (barOf b3 []).trans (barOf ((Below.refl _ _).alloc (Nat.le_refl _) _) []) (by simp)
    have OWu := (OWt.out.keep bb3 (fun _ _ => by simp)).mono (G' := (w14.heap.size :: BW :: KL) ++ [wR.heap.size]) (fun x hx => List.mem_append.2 (.inl hx))
    have r4 := r3.below ((Below.refl (wR.alloc (.cells #[.int .u8 116, .int .u8 119, .int .u8 111] 5 (3, 4))).heap.size _).alloc (Nat.le_refl _) (.cells #[.slice (some ⟨wR.heap.size, 0, none⟩) 3 3] 38))
    have hs3 : (wR.alloc (.cells #[.int .u8 116, .int .u8 119, .int .u8 111] 5 (3, 4))).heap.size = wR.heap.size + 1 := by simp
    have cB3 : ((wR.alloc (.cells #[.int .u8 116, .int .u8 119, .int .u8 111] 5 (3, 4))).alloc (.cells #[.slice (some ⟨wR.heap.size, 0, none⟩) 3 3] 38)).cell? ⟨wR.heap.size + 1, 0, none⟩ = some (.slice (some ⟨wR.heap.size, 0, none⟩) 3 3) := by
      exact (Blk.new_at _ 38 #[.slice (some ⟨wR.heap.size, 0, none⟩) 3 3] (wR.heap.size + 1) hs3.symm).cell 0
    have hvo3 : ∀ x ∈ (Value.slice (some ⟨BW, 0, none⟩) 1 1).ownBlock.toList, x ∈ (w14.heap.size :: BW :: KL) := OWt.out.choose_spec.2.1
    have hoff3 : Off (some ⟨wR.heap.size, 0, none⟩) 3 (Value.slice (some ⟨BW, 0, none⟩) 1 1).ownBlock.toList := .inr ⟨wR.heap.size, 0, rfl, fun hm => by have := GWL.out _ (hvo3 _ hm); omega⟩
    obtain ⟨u8, w9, hrun, og9, fp9⟩ := run_append_og (P := Tryz.prog) 57 57 38 Tryz.underlying57 info_rowS OWu (wR.heap.size + 1) 1 (some ⟨wR.heap.size, 0, none⟩) 3 3 twoL cB3 r4 (Nat.le_refl 3) (by omega) (.inr ⟨wR.heap.size, 0, rfl, by simp⟩) hoff3 (by have := HLEN.out; omega)
    obtain ⟨A8, c8, k8, hu8, hk8, hk9, rw8⟩ : ∃ A8 c8 k8, u8 = .slice A8 k8 c8 ∧ k8 = n31 ∧ True ∧ Rws w9 A8 k8 (fun i => (v2.recs ++ [twoL]).getD i []) := by
      obtain ⟨A8, c8, e1, -, -, e4⟩ := og9.rws
      exact ⟨A8, c8, _, e1, HN31.out, trivial, e4⟩
    subst hu8 hk8
    have RW9 := Kept.mk (NR.out _ w9 (fun k hk => by have := GWL.out k (hvo3 k hk); omega) ((bb3.mono (l' := (Value.slice (some ⟨BW, 0, none⟩) 1 1).ownBlock.toList) (by simp)).trans fp9.1 (fun k hk => .inl hk)))
    have HB9 : Kept (Below w.heap.size w w9) := ⟨(HBt.out.trans (bb3.below HBt.out.size (by simp))).trans (fp9.1.below (by have := bb3.size; have := HBt.out.size; omega) (fun k hk => by have := GWW.out k (hvo3 k hk); omega))⟩
    have CLs9 := lists_any A31 A8 k8 k8 c31 c8 (rowOf (plusJ v2 twoL).recs) (fun i => (v2.recs ++ [twoL]).getD i []) w9 RW9.out rw8 (by omega)
    rw [like_self (L := v2.recs ++ [twoL]) (n := k8) (m := k8) (X := rowOf (plusJ v2 twoL).recs) (Y := fun i => (v2.recs ++ [twoL]).getD i []) HN31.out.symm HN31.out.symm (fun _ _ => rfl) (fun _ _ => rfl)] at CLs9
    have CL9 := Kept.mk CLs9
    clear CLs9 rw8 RW9 NR HBt OWt OWu og9 fp9 hvo3 hoff3 r3 r4 b3 bb3 HN31 HLEN GWL GWW
    have hf3 : (fe = 0) ∨ (n7 = 0 ∧ (fe == 0) = false) := by
      by_cases h0 : fe = 0
      · exact .inl h0
      · exact .inr ⟨hfe.resolve_left h0, by simpa using h0⟩
    clear hfe
    rcases hf3 with h | ⟨h, hfb⟩
    · subst h
      go_wp2_with ((with_reducible refine sel 152 ?_); refine wpList_unguard (by rfl) ?_; refine Lib.wpList_append_run _ rfl (.tmp 148) (.tmp 151) 57 57 rfl _ _ rfl rfl _ _ hrun ?_)
      refine CL9.out.mono ?_
      rintro e wZ ⟨rfl, bZ⟩
      have HBZ := Kept.mk (HB9.out.trans (bZ.mono HB9.out.size))
      clear CL9 HB9 bZ hrun hcv3 cB3
      go_wp2
      go_ret
      exact ⟨rfl, HBZ.out⟩
    · subst h
      go_wp2_with ((with_reducible refine sel 152 ?_); refine wpList_unguard (by rfl) ?_; refine Lib.wpList_append_run _ rfl (.tmp 148) (.tmp 151) 57 57 rfl _ _ rfl rfl _ _ hrun ?_)
      refine CL9.out.mono ?_
      rintro e wZ ⟨rfl, bZ⟩
      have HBZ := Kept.mk (HB9.out.trans (bZ.mono HB9.out.size))
      clear CL9 HB9 bZ hrun hcv3 cB3
      go_wp2
      go_ret
      exact ⟨rfl, HBZ.out⟩
  · have hlen : v2.recs.length = 2 := by rw [hr]; rfl
    rw [hlen] at RW17 NW17 hn17 ⊢
    by_cases hg : gg = 0
    · subst hg
      go_upto_region 24 with (fail)
      have HLEN := Kept.mk hlen
      have bb : Bar [] w17 (w17.alloc (.cells #[.slice A10 ln c10] 38)) := barOf ((Below.refl _ _).alloc (Nat.le_refl _) _) []
      have cB : (w17.alloc (.cells #[.slice A10 ln c10] 38)).cell? ⟨w17.heap.size, 0, none⟩ = some (.slice A10 ln c10) := (Blk.new w17 38 #[.slice A10 ln c10]).cell 0
      have OGb := OT17.out.keep bb (fun _ _ => by simp)
      have RLb := RL17.out.far bb (RL17.out.off (by simp))
      have hvo : ∀ x ∈ (Value.slice (some ⟨BW, 0, none⟩) 1 1).ownBlock.toList, x ∈ w14.heap.size :: BW :: KL := OT17.out.choose_spec.2.1
      obtain ⟨u18, w18, hrun, og18, fp18⟩ := run_append_og (P := Tryz.prog) 57 57 38 Tryz.underlying57 info_rowS OGb w17.heap.size 1 A10 ln c10 long cB RLb p1 p2 (HIN.out.1.mono (fun x hx => by simp [hx])) OFT.out (by show (1 : Nat) ≤ 4294967296; omega)
      obtain ⟨A18, c18, e18⟩ := og18.shape
      replace e18 : u18 = Value.slice A18 2 c18 := e18
      subst e18
      go_upto_region 25 with ((with_reducible refine sel 122 ?_); refine Lib.wpList_append_run _ rfl (.tmp 119) (.tmp 121) 57 57 rfl _ _ rfl rfl _ _ hrun ?_)
      have BR : Bar (Value.slice (some ⟨BW, 0, none⟩) 1 1).ownBlock.toList w17 w18 := (bb.mono (by simp)).trans fp18.1 (fun k hk => .inl hk)
      have s17 := bb.size
      have s18 := fp18.1.size
      have V18L : ∀ x ∈ (Value.slice A18 2 c18).ownBlock.toList, x < w18.heap.size := fun x hx => (og18.choose_spec.1.lt x (by simpa using hx)).2
      have OW : Kept (Og w18 38 (.slice A18 2 c18) v2.recs ((Value.slice A18 2 c18).ownBlock.toList ++ (w14.heap.size :: BW :: KL))) := ⟨by rw [hr]; exact og18⟩
      have SYn := Kept.mk (SY17.out.keep api.base BR (fun x hx hx2 => DG.out x (hvo x hx2) hx))
      have HBn : Kept (Below w.heap.size w w18) := ⟨HB17.out.trans (BR.below HB17.out.size (fun k hk => GW0.out k (hvo k hk)))⟩
      have GOLD : ∀ k ∈ w14.heap.size :: BW :: KL, k < w17.heap.size := fun k hk => by
        simp only [List.mem_cons] at hk
        rcases hk with e | e | e
        · omega
        · omega
        · have := HIN.out.2.2 k e; omega
      have RWn := Kept.mk (NW17.out _ w18 (fun k hk => by simp [Value.ownBlock] at hk; omega) BR)
      have hmem : ∀ x ∈ (Value.slice A18 2 c18).ownBlock.toList ++ (w14.heap.size :: BW :: KL), x ∈ w14.heap.size :: BW :: KL ∨ (w17.heap.size ≤ x ∧ x < w18.heap.size) := fun x hx => by
        rcases List.mem_append.1 hx with hx | hx
        · rcases fp18.2 x hx with e | e
          · exact .inl (hvo x e)
          · exact .inr ⟨by omega, V18L x hx⟩
        · exact .inl hx
      have DW : Kept (Disj ((Value.slice A18 2 c18).ownBlock.toList ++ (w14.heap.size :: BW :: KL)) H14) := ⟨fun x hx hx2 => by
        rcases hmem x hx with e | e
        · exact DG.out x e hx2
        · have := HLT14.out x hx2; omega⟩
      have GWL : Kept (∀ k ∈ (Value.slice A18 2 c18).ownBlock.toList ++ (w14.heap.size :: BW :: KL), k < w18.heap.size) := ⟨fun x hx => by
        rcases hmem x hx with e | e
        · have := GOLD x e; omega
        · exact e.2⟩
      have GWW : Kept (∀ k ∈ (Value.slice A18 2 c18).ownBlock.toList ++ (w14.heap.size :: BW :: KL), w.heap.size ≤ k) := ⟨fun x hx => by
        rcases hmem x hx with e | e
        · exact GW0.out x e
        · have := HB17.out.size; omega⟩
      clear hlen hr RW17 SY17 HB17 DG NW17 OT17 RL17 OFT hrun og18 fp18 bb cB OGb RLb hvo BR V18L GOLD hmem
      obtain ⟨Aq, cq, hq, -, -, rwQ⟩ := OW.out.rws
      injection hq with e1 e2 e3
      subst e1 e3
      have CLs := lists_any A17 A18 2 v2.recs.length c17 c18 (rowOf v2.recs) (fun i => v2.recs.getD i []) w18 RWn.out rwQ (by omega)
      rw [like_self (L := v2.recs) (n := 2) (m := v2.recs.length) (X := rowOf v2.recs) (Y := fun i => v2.recs.getD i []) HLEN.out.symm rfl (fun _ _ => rfl) (fun _ _ => rfl), HLEN.out] at CLs
      have CL2 := Kept.mk CLs
      clear CLs rwQ RWn e2
      go_wp2_with fail
      refine CL2.out.mono ?_
      rintro e wL ⟨rfl, bL⟩
      have SYl := Kept.mk (SYn.out.keep api.base (barOf bL []) (fun _ _ => by simp))
      have OWl := Kept.mk (OW.out.keep (barOf bL []) (fun _ _ => by simp))
      have HBl := Kept.mk (HBn.out.trans (bL.mono HBn.out.size))
      have szL : w18.heap.size ≤ wL.heap.size := bL.size
      clear CL2 SYn OW HBn bL
      obtain ⟨hcv2, r2, b2⟩ := lit3 wL 116 119 111 twoL_bytes
      have SYm := SYl.out.keep api.base (barOf b2 []) (fun _ _ => by simp)
      have OWm := Kept.mk (OWl.out.keep (barOf b2 []) (fun _ _ => by simp))
      have HBm := Kept.mk (HBl.out.trans (b2.mono HBl.out.size))
      have CA3 := Kept.mk (api.append SYm r2 (new_off (SYl.out.lts api.base)) (Nat.le_refl 3) (by omega) (by omega))
      rw [show ([116, 119, 111] : List Int) = twoL from rfl, tw1] at CA3
      have szM := b2.size
      clear r2 SYm SYl OWl HBl b2 tw1
      go_wp2_with fail
      refine CA3.out.mono ?_
      clear hcv2
      rintro e wA ⟨rfl, H5, sy, fp⟩
      simp only at sy
      obtain ⟨HBp, HL5⟩ := act_fp HBm fp HL14
      have OWp := Kept.mk (OWm.out.keep fp.1 DW.out)
      have DWp : Disj ((Value.slice A18 2 c18).ownBlock.toList ++ (w14.heap.size :: BW :: KL)) H5 := (DW.out.symm.step fp (fun k hk => by have := GWL.out k hk; omega)).symm
      obtain ⟨HS5, sd5, hsub5⟩ := sy.sd
      have SD5 := Kept.mk sd5
      have HLs5 : Kept (∀ k ∈ HS5, w.heap.size ≤ k) := ⟨fun k hk => HL5.out k (hsub5 k hk)⟩
      have DWs : Kept (Disj ((Value.slice A18 2 c18).ownBlock.toList ++ (w14.heap.size :: BW :: KL)) HS5) := ⟨fun k hk hk2 => DWp k hk (hsub5 k hk2)⟩
      have szP := fp.1.size
      have CO5 := Kept.mk (api.open_ SD5.out)
      clear CA3 sy fp HBm OWm DWp sd5 hsub5 HL5 DW
      go_wp2_with fail
      refine CO5.out.mono ?_
      rintro e wO ⟨j3, H7, rfl, sy, fp⟩
      rw [TW2.out] at sy
      obtain ⟨HBq, HL7⟩ := act_fp HBp fp HLs5
      have OWq := Kept.mk (OWp.out.keep fp.1 DWs.out)
      have SYq := Kept.mk sy
      have szQ := fp.1.size
      have CPi := Kept.mk (api.picture SYq.out)
      clear CO5 sy fp HBp HLs5 OWp DWs SD5
      go_wp2_with fail
      refine CPi.out.mono ?_
      rintro e wP ⟨AP, nP, cP, rfl, -, -, -, bP⟩
      rw [show (plusJ v2 twoL).has = false from hhas]
      have OWr := Kept.mk (OWq.out.keep (barOf bP []) (fun _ _ => by simp))
      have SYr := Kept.mk (SYq.out.keep api.base (barOf bP []) (fun _ _ => by simp))
      have HBr := Kept.mk (HBq.out.trans (bP.mono HBq.out.size))
      have szR := bP.size
      have CFi := Kept.mk (jfirst_any api wP)
      clear CPi OWq SYq HBq bP
      go_wp2_with fail
      refine CFi.out.mono ?_
      rintro e wF ⟨rfl, bF⟩
      have OWs := Kept.mk (OWr.out.keep (barOf bF []) (fun _ _ => by simp))
      have SYs := Kept.mk (SYr.out.keep api.base (barOf bF []) (fun _ _ => by simp))
      have HBs := Kept.mk (HBr.out.trans (bF.mono HBr.out.size))
      have szS := bF.size
      have CRe := Kept.mk (api.records SYs.out)
      clear CFi OWr SYr HBr bF
      obtain ⟨n31, hn31⟩ : ∃ q, (plusJ v2 twoL).recs.length = q := ⟨_, rfl⟩
      have HN31 := Kept.mk hn31
      go_wp2_with fail
      refine CRe.out.mono ?_
      rintro e wR ⟨A31, c31, rfl, hy1, hy2, -, bR, nR⟩
      have OWt := Kept.mk (OWs.out.keep (barOf bR []) (fun _ _ => by simp))
      have HBt := Kept.mk (HBs.out.trans (bR.mono HBs.out.size))
      have szT := bR.size
      have NR := Kept.mk nR
      rw [hn31] at hy1 NR ⊢
      clear CRe OWs SYs HBs bR nR hn31
      obtain ⟨hcv3, r3, b3⟩ := lit3 wR 116 119 111 twoL_bytes
      have bb3 : Bar [] wR ((wR.alloc (.cells #[.int .u8 116, .int .u8 119, .int .u8 111] 5 (3, 4))).alloc (.cells #[.slice (some ⟨wR.heap.size, 0, none⟩) 3 3] 38)) := (barOf b3 []).trans (barOf ((Below.refl _ _).alloc (Nat.le_refl _) _) []) (by simp)
      have OWu := (OWt.out.keep bb3 (fun _ _ => by simp)).mono (G' := ((Value.slice A18 2 c18).ownBlock.toList ++ (w14.heap.size :: BW :: KL)) ++ [wR.heap.size]) (fun x hx => List.mem_append.2 (.inl hx))
      have r4 := r3.below ((Below.refl (wR.alloc (.cells #[.int .u8 116, .int .u8 119, .int .u8 111] 5 (3, 4))).heap.size _).alloc (Nat.le_refl _) (.cells #[.slice (some ⟨wR.heap.size, 0, none⟩) 3 3] 38))
      have hs3 : (wR.alloc (.cells #[.int .u8 116, .int .u8 119, .int .u8 111] 5 (3, 4))).heap.size = wR.heap.size + 1 := by simp
      have cB3 : ((wR.alloc (.cells #[.int .u8 116, .int .u8 119, .int .u8 111] 5 (3, 4))).alloc (.cells #[.slice (some ⟨wR.heap.size, 0, none⟩) 3 3] 38)).cell? ⟨wR.heap.size + 1, 0, none⟩ = some (.slice (some ⟨wR.heap.size, 0, none⟩) 3 3) := by
        exact (Blk.new_at _ 38 #[.slice (some ⟨wR.heap.size, 0, none⟩) 3 3] (wR.heap.size + 1) hs3.symm).cell 0
      have hvo3 : ∀ x ∈ (Value.slice A18 2 c18).ownBlock.toList, x ∈ ((Value.slice A18 2 c18).ownBlock.toList ++ (w14.heap.size :: BW :: KL)) := OWt.out.choose_spec.2.1
      have hoff3 : Off (some ⟨wR.heap.size, 0, none⟩) 3 (Value.slice A18 2 c18).ownBlock.toList := .inr ⟨wR.heap.size, 0, rfl, fun hm => by have := GWL.out _ (hvo3 _ hm); omega⟩
      obtain ⟨u8, w9, hrun, og9, fp9⟩ := run_append_og (P := Tryz.prog) 57 57 38 Tryz.underlying57 info_rowS OWu (wR.heap.size + 1) 1 (some ⟨wR.heap.size, 0, none⟩) 3 3 twoL cB3 r4 (Nat.le_refl 3) (by omega) (.inr ⟨wR.heap.size, 0, rfl, by simp⟩) hoff3 (by have := HLEN.out; omega)
      obtain ⟨A8, c8, k8, hu8, hk8, hk9, rw8⟩ : ∃ A8 c8 k8, u8 = .slice A8 k8 c8 ∧ k8 = n31 ∧ True ∧ Rws w9 A8 k8 (fun i => (v2.recs ++ [twoL]).getD i []) := by
        obtain ⟨A8, c8, e1, -, -, e4⟩ := og9.rws
        exact ⟨A8, c8, _, e1, HN31.out, trivial, e4⟩
      subst hu8 hk8
      have RW9 := Kept.mk (NR.out _ w9 (fun k hk => by have := GWL.out k (hvo3 k hk); omega) ((bb3.mono (l' := (Value.slice A18 2 c18).ownBlock.toList) (by simp)).trans fp9.1 (fun k hk => .inl hk)))
      have HB9 : Kept (Below w.heap.size w w9) := ⟨(HBt.out.trans (bb3.below HBt.out.size (by simp))).trans (fp9.1.below (by have := bb3.size; have := HBt.out.size; omega) (fun k hk => by have := GWW.out k (hvo3 k hk); omega))⟩
      have CLs9 := lists_any A31 A8 k8 k8 c31 c8 (rowOf (plusJ v2 twoL).recs) (fun i => (v2.recs ++ [twoL]).getD i []) w9 RW9.out rw8 (by omega)
      rw [like_self (L := v2.recs ++ [twoL]) (n := k8) (m := k8) (X := rowOf (plusJ v2 twoL).recs) (Y := fun i => (v2.recs ++ [twoL]).getD i []) HN31.out.symm HN31.out.symm (fun _ _ => rfl) (fun _ _ => rfl)] at CLs9
      have CL9 := Kept.mk CLs9
      clear CLs9 rw8 RW9 NR HBt OWt OWu og9 fp9 hvo3 hoff3 r3 r4 b3 bb3 HN31 HLEN GWL GWW
      have hf3 : (fe = 0) ∨ (n7 = 0 ∧ (fe == 0) = false) := by
        by_cases h0 : fe = 0
        · exact .inl h0
        · exact .inr ⟨hfe.resolve_left h0, by simpa using h0⟩
      clear hfe
      rcases hf3 with h | ⟨h, hfb⟩
      · subst h
        go_wp2_with ((with_reducible refine sel 152 ?_); refine wpList_unguard (by rfl) ?_; refine Lib.wpList_append_run _ rfl (.tmp 148) (.tmp 151) 57 57 rfl _ _ rfl rfl _ _ hrun ?_)
        refine CL9.out.mono ?_
        rintro e wZ ⟨rfl, bZ⟩
        have HBZ := Kept.mk (HB9.out.trans (bZ.mono HB9.out.size))
        clear CL9 HB9 bZ hrun hcv3 cB3
        go_wp2
        go_ret
        exact ⟨rfl, HBZ.out⟩
      · subst h
        go_wp2_with ((with_reducible refine sel 152 ?_); refine wpList_unguard (by rfl) ?_; refine Lib.wpList_append_run _ rfl (.tmp 148) (.tmp 151) 57 57 rfl _ _ rfl rfl _ _ hrun ?_)
        refine CL9.out.mono ?_
        rintro e wZ ⟨rfl, bZ⟩
        have HBZ := Kept.mk (HB9.out.trans (bZ.mono HB9.out.size))
        clear CL9 HB9 bZ hrun hcv3 cB3
        go_wp2
        go_ret
        exact ⟨rfl, HBZ.out⟩
    · have hg' : (gg == 0) = false := by simpa using hg
      go_upto_region 24 with (fail)
      have HLEN := Kept.mk hlen
      have bb : Bar [] w17 (w17.alloc (.cells #[.slice A10 ln c10] 38)) := barOf ((Below.refl _ _).alloc (Nat.le_refl _) _) []
      have cB : (w17.alloc (.cells #[.slice A10 ln c10] 38)).cell? ⟨w17.heap.size, 0, none⟩ = some (.slice A10 ln c10) := (Blk.new w17 38 #[.slice A10 ln c10]).cell 0
      have OGb := OT17.out.keep bb (fun _ _ => by simp)
      have RLb := RL17.out.far bb (RL17.out.off (by simp))
      have hvo : ∀ x ∈ (Value.slice (some ⟨BW, 0, none⟩) 1 1).ownBlock.toList, x ∈ w14.heap.size :: BW :: KL := OT17.out.choose_spec.2.1
      obtain ⟨u18, w18, hrun, og18, fp18⟩ := run_append_og (P := Tryz.prog) 57 57 38 Tryz.underlying57 info_rowS OGb w17.heap.size 1 A10 ln c10 long cB RLb p1 p2 (HIN.out.1.mono (fun x hx => by simp [hx])) OFT.out (by show (1 : Nat) ≤ 4294967296; omega)
      obtain ⟨A18, c18, e18⟩ := og18.shape
      replace e18 : u18 = Value.slice A18 2 c18 := e18
      subst e18
      go_upto_region 25 with ((with_reducible refine sel 122 ?_); refine Lib.wpList_append_run _ rfl (.tmp 119) (.tmp 121) 57 57 rfl _ _ rfl rfl _ _ hrun ?_)
      have BR : Bar (Value.slice (some ⟨BW, 0, none⟩) 1 1).ownBlock.toList w17 w18 := (bb.mono (by simp)).trans fp18.1 (fun k hk => .inl hk)
      have s17 := bb.size
      have s18 := fp18.1.size
      have V18L : ∀ x ∈ (Value.slice A18 2 c18).ownBlock.toList, x < w18.heap.size := fun x hx => (og18.choose_spec.1.lt x (by simpa using hx)).2
      have OW : Kept (Og w18 38 (.slice A18 2 c18) v2.recs ((Value.slice A18 2 c18).ownBlock.toList ++ (w14.heap.size :: BW :: KL))) := ⟨by rw [hr]; exact og18⟩
      have SYn := Kept.mk (SY17.out.keep api.base BR (fun x hx hx2 => DG.out x (hvo x hx2) hx))
      have HBn : Kept (Below w.heap.size w w18) := ⟨HB17.out.trans (BR.below HB17.out.size (fun k hk => GW0.out k (hvo k hk)))⟩
      have GOLD : ∀ k ∈ w14.heap.size :: BW :: KL, k < w17.heap.size := fun k hk => by
        simp only [List.mem_cons] at hk
        rcases hk with e | e | e
        · omega
        · omega
        · have := HIN.out.2.2 k e; omega
      have RWn := Kept.mk (NW17.out _ w18 (fun k hk => by simp [Value.ownBlock] at hk; omega) BR)
      have hmem : ∀ x ∈ (Value.slice A18 2 c18).ownBlock.toList ++ (w14.heap.size :: BW :: KL), x ∈ w14.heap.size :: BW :: KL ∨ (w17.heap.size ≤ x ∧ x < w18.heap.size) := fun x hx => by
        rcases List.mem_append.1 hx with hx | hx
        · rcases fp18.2 x hx with e | e
          · exact .inl (hvo x e)
          · exact .inr ⟨by omega, V18L x hx⟩
        · exact .inl hx
      have DW : Kept (Disj ((Value.slice A18 2 c18).ownBlock.toList ++ (w14.heap.size :: BW :: KL)) H14) := ⟨fun x hx hx2 => by
        rcases hmem x hx with e | e
        · exact DG.out x e hx2
        · have := HLT14.out x hx2; omega⟩
      have GWL : Kept (∀ k ∈ (Value.slice A18 2 c18).ownBlock.toList ++ (w14.heap.size :: BW :: KL), k < w18.heap.size) := ⟨fun x hx => by
        rcases hmem x hx with e | e
        · have := GOLD x e; omega
        · exact e.2⟩
      have GWW : Kept (∀ k ∈ (Value.slice A18 2 c18).ownBlock.toList ++ (w14.heap.size :: BW :: KL), w.heap.size ≤ k) := ⟨fun x hx => by
        rcases hmem x hx with e | e
        · exact GW0.out x e
        · have := HB17.out.size; omega⟩
      clear hlen hr RW17 SY17 HB17 DG NW17 OT17 RL17 OFT hrun og18 fp18 bb cB OGb RLb hvo BR V18L GOLD hmem
      obtain ⟨Aq, cq, hq, -, -, rwQ⟩ := OW.out.rws
      injection hq with e1 e2 e3
      subst e1 e3
      have CLs := lists_any A17 A18 2 v2.recs.length c17 c18 (rowOf v2.recs) (fun i => v2.recs.getD i []) w18 RWn.out rwQ (by omega)
      rw [like_self (L := v2.recs) (n := 2) (m := v2.recs.length) (X := rowOf v2.recs) (Y := fun i => v2.recs.getD i []) HLEN.out.symm rfl (fun _ _ => rfl) (fun _ _ => rfl), HLEN.out] at CLs
      have CL2 := Kept.mk CLs
      clear CLs rwQ RWn e2
      go_wp2_with fail
      refine CL2.out.mono ?_
      rintro e wL ⟨rfl, bL⟩
      have SYl := Kept.mk (SYn.out.keep api.base (barOf bL []) (fun _ _ => by simp))
      have OWl := Kept.mk (OW.out.keep (barOf bL []) (fun _ _ => by simp))
      have HBl := Kept.mk (HBn.out.trans (bL.mono HBn.out.size))
      have szL : w18.heap.size ≤ wL.heap.size := bL.size
      clear CL2 SYn OW HBn bL
      obtain ⟨hcv2, r2, b2⟩ := lit3 wL 116 119 111 twoL_bytes
      have SYm := SYl.out.keep api.base (barOf b2 []) (fun _ _ => by simp)
      have OWm := Kept.mk (OWl.out.keep (barOf b2 []) (fun _ _ => by simp))
      have HBm := Kept.mk (HBl.out.trans (b2.mono HBl.out.size))
      have CA3 := Kept.mk (api.append SYm r2 (new_off (SYl.out.lts api.base)) (Nat.le_refl 3) (by omega) (by omega))
      rw [show ([116, 119, 111] : List Int) = twoL from rfl, tw1] at CA3
      have szM := b2.size
      clear r2 SYm SYl OWl HBl b2 tw1
      go_wp2_with fail
      refine CA3.out.mono ?_
      clear hcv2
      rintro e wA ⟨rfl, H5, sy, fp⟩
      simp only at sy
      obtain ⟨HBp, HL5⟩ := act_fp HBm fp HL14
      have OWp := Kept.mk (OWm.out.keep fp.1 DW.out)
      have DWp : Disj ((Value.slice A18 2 c18).ownBlock.toList ++ (w14.heap.size :: BW :: KL)) H5 := (DW.out.symm.step fp (fun k hk => by have := GWL.out k hk; omega)).symm
      obtain ⟨HS5, sd5, hsub5⟩ := sy.sd
      have SD5 := Kept.mk sd5
      have HLs5 : Kept (∀ k ∈ HS5, w.heap.size ≤ k) := ⟨fun k hk => HL5.out k (hsub5 k hk)⟩
      have DWs : Kept (Disj ((Value.slice A18 2 c18).ownBlock.toList ++ (w14.heap.size :: BW :: KL)) HS5) := ⟨fun k hk hk2 => DWp k hk (hsub5 k hk2)⟩
      have szP := fp.1.size
      have CO5 := Kept.mk (api.open_ SD5.out)
      clear CA3 sy fp HBm OWm DWp sd5 hsub5 HL5 DW
      go_wp2_with fail
      refine CO5.out.mono ?_
      rintro e wO ⟨j3, H7, rfl, sy, fp⟩
      rw [TW2.out] at sy
      obtain ⟨HBq, HL7⟩ := act_fp HBp fp HLs5
      have OWq := Kept.mk (OWp.out.keep fp.1 DWs.out)
      have SYq := Kept.mk sy
      have szQ := fp.1.size
      have CPi := Kept.mk (api.picture SYq.out)
      clear CO5 sy fp HBp HLs5 OWp DWs SD5
      go_wp2_with fail
      refine CPi.out.mono ?_
      rintro e wP ⟨AP, nP, cP, rfl, -, -, -, bP⟩
      rw [show (plusJ v2 twoL).has = false from hhas]
      have OWr := Kept.mk (OWq.out.keep (barOf bP []) (fun _ _ => by simp))
      have SYr := Kept.mk (SYq.out.keep api.base (barOf bP []) (fun _ _ => by simp))
      have HBr := Kept.mk (HBq.out.trans (bP.mono HBq.out.size))
      have szR := bP.size
      have CFi := Kept.mk (jfirst_any api wP)
      clear CPi OWq SYq HBq bP
      go_wp2_with fail
      refine CFi.out.mono ?_
      rintro e wF ⟨rfl, bF⟩
      have OWs := Kept.mk (OWr.out.keep (barOf bF []) (fun _ _ => by simp))
      have SYs := Kept.mk (SYr.out.keep api.base (barOf bF []) (fun _ _ => by simp))
      have HBs := Kept.mk (HBr.out.trans (bF.mono HBr.out.size))
      have szS := bF.size
      have CRe := Kept.mk (api.records SYs.out)
      clear CFi OWr SYr HBr bF
      obtain ⟨n31, hn31⟩ : ∃ q, (plusJ v2 twoL).recs.length = q := ⟨_, rfl⟩
      have HN31 := Kept.mk hn31
      go_wp2_with fail
      refine CRe.out.mono ?_
      rintro e wR ⟨A31, c31, rfl, hy1, hy2, -, bR, nR⟩
      have OWt := Kept.mk (OWs.out.keep (barOf bR []) (fun _ _ => by simp))
      have HBt := Kept.mk (HBs.out.trans (bR.mono HBs.out.size))
      have szT := bR.size
      have NR := Kept.mk nR
      rw [hn31] at hy1 NR ⊢
      clear CRe OWs SYs HBs bR nR hn31
      obtain ⟨hcv3, r3, b3⟩ := lit3 wR 116 119 111 twoL_bytes
      have bb3 : Bar [] wR ((wR.alloc (.cells #[.int .u8 116, .int .u8 119, .int .u8 111] 5 (3, 4))).alloc (.cells #[.slice (some ⟨wR.heap.size, 0, none⟩) 3 3] 38)) := (barOf b3 []).trans (barOf ((Below.refl _ _).alloc (Nat.le_refl _) _) []) (by simp)
      have OWu := (OWt.out.keep bb3 (fun _ _ => by simp)).mono (G' := ((Value.slice A18 2 c18).ownBlock.toList ++ (w14.heap.size :: BW :: KL)) ++ [wR.heap.size]) (fun x hx => List.mem_append.2 (.inl hx))
      have r4 := r3.below ((Below.refl (wR.alloc (.cells #[.int .u8 116, .int .u8 119, .int .u8 111] 5 (3, 4))).heap.size _).alloc (Nat.le_refl _) (.cells #[.slice (some ⟨wR.heap.size, 0, none⟩) 3 3] 38))
      have hs3 : (wR.alloc (.cells #[.int .u8 116, .int .u8 119, .int .u8 111] 5 (3, 4))).heap.size = wR.heap.size + 1 := by simp
      have cB3 : ((wR.alloc (.cells #[.int .u8 116, .int .u8 119, .int .u8 111] 5 (3, 4))).alloc (.cells #[.slice (some ⟨wR.heap.size, 0, none⟩) 3 3] 38)).cell? ⟨wR.heap.size + 1, 0, none⟩ = some (.slice (some ⟨wR.heap.size, 0, none⟩) 3 3) := by
        exact (Blk.new_at _ 38 #[.slice (some ⟨wR.heap.size, 0, none⟩) 3 3] (wR.heap.size + 1) hs3.symm).cell 0
      have hvo3 : ∀ x ∈ (Value.slice A18 2 c18).ownBlock.toList, x ∈ ((Value.slice A18 2 c18).ownBlock.toList ++ (w14.heap.size :: BW :: KL)) := OWt.out.choose_spec.2.1
      have hoff3 : Off (some ⟨wR.heap.size, 0, none⟩) 3 (Value.slice A18 2 c18).ownBlock.toList := .inr ⟨wR.heap.size, 0, rfl, fun hm => by have := GWL.out _ (hvo3 _ hm); omega⟩
      obtain ⟨u8, w9, hrun, og9, fp9⟩ := run_append_og (P := Tryz.prog) 57 57 38 Tryz.underlying57 info_rowS OWu (wR.heap.size + 1) 1 (some ⟨wR.heap.size, 0, none⟩) 3 3 twoL cB3 r4 (Nat.le_refl 3) (by omega) (.inr ⟨wR.heap.size, 0, rfl, by simp⟩) hoff3 (by have := HLEN.out; omega)
      obtain ⟨A8, c8, k8, hu8, hk8, hk9, rw8⟩ : ∃ A8 c8 k8, u8 = .slice A8 k8 c8 ∧ k8 = n31 ∧ True ∧ Rws w9 A8 k8 (fun i => (v2.recs ++ [twoL]).getD i []) := by
        obtain ⟨A8, c8, e1, -, -, e4⟩ := og9.rws
        exact ⟨A8, c8, _, e1, HN31.out, trivial, e4⟩
      subst hu8 hk8
      have RW9 := Kept.mk (NR.out _ w9 (fun k hk => by have := GWL.out k (hvo3 k hk); omega) ((bb3.mono (l' := (Value.slice A18 2 c18).ownBlock.toList) (by simp)).trans fp9.1 (fun k hk => .inl hk)))
      have HB9 : Kept (Below w.heap.size w w9) := ⟨(HBt.out.trans (bb3.below HBt.out.size (by simp))).trans (fp9.1.below (by have := bb3.size; have := HBt.out.size; omega) (fun k hk => by have := GWW.out k (hvo3 k hk); omega))⟩
      have CLs9 := lists_any A31 A8 k8 k8 c31 c8 (rowOf (plusJ v2 twoL).recs) (fun i => (v2.recs ++ [twoL]).getD i []) w9 RW9.out rw8 (by omega)
      rw [like_self (L := v2.recs ++ [twoL]) (n := k8) (m := k8) (X := rowOf (plusJ v2 twoL).recs) (Y := fun i => (v2.recs ++ [twoL]).getD i []) HN31.out.symm HN31.out.symm (fun _ _ => rfl) (fun _ _ => rfl)] at CLs9
      have CL9 := Kept.mk CLs9
      clear CLs9 rw8 RW9 NR HBt OWt OWu og9 fp9 hvo3 hoff3 r3 r4 b3 bb3 HN31 HLEN GWL GWW
      have hf3 : (fe = 0) ∨ (n7 = 0 ∧ (fe == 0) = false) := by
        by_cases h0 : fe = 0
        · exact .inl h0
        · exact .inr ⟨hfe.resolve_left h0, by simpa using h0⟩
      clear hfe
      rcases hf3 with h | ⟨h, hfb⟩
      · subst h
        go_wp2_with ((with_reducible refine sel 152 ?_); refine wpList_unguard (by rfl) ?_; refine Lib.wpList_append_run _ rfl (.tmp 148) (.tmp 151) 57 57 rfl _ _ rfl rfl _ _ hrun ?_)
        refine CL9.out.mono ?_
        rintro e wZ ⟨rfl, bZ⟩
        have HBZ := Kept.mk (HB9.out.trans (bZ.mono HB9.out.size))
        clear CL9 HB9 bZ hrun hcv3 cB3
        go_wp2
        go_ret
        exact ⟨rfl, HBZ.out⟩
      · subst h
        go_wp2_with ((with_reducible refine sel 152 ?_); refine wpList_unguard (by rfl) ?_; refine Lib.wpList_append_run _ rfl (.tmp 148) (.tmp 151) 57 57 rfl _ _ rfl rfl _ _ hrun ?_)
        refine CL9.out.mono ?_
        rintro e wZ ⟨rfl, bZ⟩
        have HBZ := Kept.mk (HB9.out.trans (bZ.mono HB9.out.size))
        clear CL9 HB9 bZ hrun hcv3 cB3
        go_wp2
        go_ret
        exact ⟨rfl, HBZ.out⟩
end Go.Proofs.YtjlhnhkjgcbnnaaGreat.Journal
