/-
  Chapter 8: JournalFull.
-/
import Derived.Test.YtjlhnhkjgcbnnaaPart8
import Derived.Test.YtjlhnhkjgcbnnaaPart6
import Derived.Test.YtjlhnhkjgcbnnaaPart5
import Derived.Laws.Bits128
namespace Go.Proofs.Ytjlhnhkjgcbnnaa.Journal
open Go.RowKit Go.Proofs.Ytjlhnhkjgcbnnaa.Sha Go.Proofs.Ytjlhnhkjgcbnnaa.Disk Go.Proofs.Ytjlhnhkjgcbnnaa.Frame

/-- a table, and a new disk beside it -/
theorem sd_new3 {w w1 w2 : World} {t d n : Nat} {F : List Nat} (ht : Tab w1 t) (htw : w.heap.size ≤ t) (dk : Dk w2 F d n (newD n)) (fp : Fp [] F w1 w2) : Sd w2 (t :: F) t d n (newD n) ∧ (∀ k ∈ t :: F, w.heap.size ≤ k) := by
  have hF : ∀ k ∈ F, w1.heap.size ≤ k := fun k hk => by
    rcases fp.2 k hk with e | e
    · simp at e
    · exact e
  have htl := ftab_lt ht
  refine ⟨⟨F, ftab_bar ht fp.1 (by simp), dk, fun hm => by have := hF t hm; omega, rfl⟩, fun k hk => ?_⟩
  rcases List.mem_cons.1 hk with rfl | hk
  · exact htw
  · have := hF k hk; omega

theorem fill_step {q kk : Nat} {y : Int} (h : q < kk) : (arr .u8 (List.replicate q y ++ List.replicate (kk - q) 0)).setIfInBounds q (.int .u8 y) = arr .u8 (List.replicate (q + 1) y ++ List.replicate (kk - (q + 1)) 0) := by
  obtain ⟨m, hm⟩ : ∃ m, kk - q = m + 1 := ⟨kk - q - 1, by omega⟩
  rw [hm, show kk - (q + 1) = m by omega]
  apply Array.toList_inj.1
  unfold arr ints
  rw [Array.toList_setIfInBounds, List.map_append, List.set_append_right _ _ (by simp)]
  simp only [List.map_replicate, List.length_replicate, Nat.sub_self, List.replicate_succ, List.map_append, List.map_cons, List.set_cons_zero]
  rw [show Value.int IntKind.u8 y :: List.replicate q (Value.int IntKind.u8 y) = List.replicate q (Value.int IntKind.u8 y) ++ [Value.int IntKind.u8 y] from (by rw [← List.replicate_succ, List.replicate_succ']), List.append_assoc]
  rfl
theorem info_rowF : (Try.prog.info? 33).map (fun i => (i.zero, i.size, i.bytes)) = some (some (.slice none 0 0), 1, 24) := by kernel_rfl
theorem like_self {L : List (List Int)} {n m : Nat} {X Y : Nat → List Int} (hn : n = L.length) (hm : m = L.length) (hX : ∀ i, i < n → X i = L.getD i []) (hY : ∀ i, i < n → Y i = L.getD i []) : likeB n m X Y = true := by
  unfold likeB
  rw [decide_eq_true_eq]
  exact ⟨by omega, fun i hi => by rw [hX i hi, hY i hi]⟩
theorem dg_mono {G H : List Nat} {B n n' : Nat} (h : Disj G H ∧ ∀ q ∈ G, B ≤ q ∧ q < n) (hn : n ≤ n') : Disj G H ∧ ∀ q ∈ G, B ≤ q ∧ q < n' := ⟨h.1, fun q hq => ⟨(h.2 q hq).1, Nat.lt_of_lt_of_le (h.2 q hq).2 hn⟩⟩
def lenJ : Value → Int | .int _ q => q | _ => 0
set_option maxRecDepth 100000 in
set_option maxHeartbeats 8000000 in
theorem full_walk {Jk : World → List Nat → Nat → Nat → Nat → Nat → JV → Prop} (api : JournalApi Jk) (n : Int) (A : Option Addr) (l c : Nat) (xs : List Int) (w : World) (ri : Ri w A l xs) :
    Calls Try.prog 3 #[.int .i64 n, .slice A l c] w (Holds w) := by
  have RI := Kept.mk ri
  have C0 := Kept.mk (jfirst_any api w)
  clear ri
  go_enter Try.func3, Try.ntmps3
  go_wp2_with fail
  refine C0.out.mono ?_
  rintro e w1 ⟨rfl, b1⟩
  have HB1 := Kept.mk b1
  have C1 := Kept.mk (jfirst_any api w1)
  clear C0 b1
  by_cases g1 : n < 4
  · go_wp2_with fail
    refine C1.out.mono ?_
    rintro e w2 ⟨rfl, b2⟩
    have HB2 := Kept.mk (HB1.out.trans (b2.mono HB1.out.size))
    clear C1 b2
    go_wp2
    go_ret
    exact ⟨rfl, HB2.out⟩
  have g1' : (n < 4) = False := eq_false g1
  by_cases g2 : 100 < n
  · go_wp2_with fail
    refine C1.out.mono ?_
    rintro e w2 ⟨rfl, b2⟩
    have HB2 := Kept.mk (HB1.out.trans (b2.mono HB1.out.size))
    clear C1 b2
    go_wp2
    go_ret
    exact ⟨rfl, HB2.out⟩
  have g2' : (100 < n) = False := eq_false g2
  by_cases g3 : 100 < l
  · have g3' : (100 : Int) < (l : Int) := by omega
    go_wp2_with fail
    refine C1.out.mono ?_
    rintro e w2 ⟨rfl, b2⟩
    have HB2 := Kept.mk (HB1.out.trans (b2.mono HB1.out.size))
    clear C1 b2
    go_wp2
    go_ret
    exact ⟨rfl, HB2.out⟩
  have g3' : ((100 : Int) < (l : Int)) = False := eq_false (by omega)
  clear C1
  obtain ⟨nn, rfl⟩ : ∃ q : Nat, n = (q : Int) := ⟨n.toNat, by omega⟩
  have hn4 : 4 ≤ nn := by omega
  have hn9 : nn ≤ 100 := by omega
  have hl9 : l ≤ 100 := by omega
  obtain ⟨FN, ON⟩ := full_new hn4 hn9
  have HON := Kept.mk ON
  have HFN := Kept.mk FN
  clear ON FN g1 g2 g3
  go_wp2_with fail
  refine (newtable_any w1).mono ?_
  rintro e w2 ⟨rfl, rfl⟩
  have ht2 : Tab (w1.alloc (.cells (tbl (.int .u32 0) (.int .i32 0) (.int .u32 0) 0 0) 57)) w1.heap.size := .inl (Blk.new_at _ _ _ _ rfl)
  have HB2 : Kept (Below w.heap.size w (w1.alloc (.cells (tbl (.int .u32 0) (.int .i32 0) (.int .u32 0) 0 0) 57))) := ⟨HB1.out.alloc HB1.out.size _⟩
  obtain ⟨t, htt⟩ : ∃ t, w1.heap.size = t := ⟨_, rfl⟩
  have htw : w.heap.size ≤ t := by rw [← htt]; exact HB1.out.size
  rw [htt] at ht2 ⊢
  have HT2 := Kept.mk ht2
  clear ht2 htt HB1
  generalize w1.alloc (.cells (tbl (.int .u32 0) (.int .i32 0) (.int .u32 0) 0 0) 57) = w2 at *
  have CN := Kept.mk (cnew_ok w2 nn (by omega) (by omega))
  go_wp2_with fail
  refine CN.out.mono ?_
  rintro e w3 ⟨d, F, rfl, dk, fp⟩
  obtain ⟨sd, hl⟩ := sd_new3 (w := w) HT2.out htw dk fp
  have HB3 : Kept (Below w.heap.size w w3) := ⟨HB2.out.trans ((fp.1.below (B := w2.heap.size) (Nat.le_refl _) (by simp)).mono HB2.out.size)⟩
  have SD := Kept.mk sd
  have HL := Kept.mk hl
  clear CN dk fp sd hl HT2 HB2 htw
  have CO := Kept.mk (api.open_ SD.out)
  go_wp2_with fail
  refine CO.out.mono ?_
  rintro e w4 ⟨j, H, rfl, sy, fp⟩
  rw [HON.out] at sy
  obtain ⟨HB4, HL4⟩ := step_fp HB3 fp HL
  have SY4 := Kept.mk sy
  clear CO SD sy fp HB3 HL
  have hq : Int.tdiv (nn : Int) 2 = ((nn / 2 : Nat) : Int) := by rw [Int.tdiv_eq_ediv_of_nonneg (by omega)]; omega
  obtain ⟨M, hM⟩ : ∃ M, nn / 2 = M := ⟨_, rfl⟩
  have hM9 : M ≤ 50 := by omega
  have hM2 : 2 ≤ M := by omega
  rw [hM] at hq
  have HM := Kept.mk hM
  clear hM
  go_wp2_with fail
  go_loopw [9, 10, 11, 12] (fun rv rm gn iv wr => ∃ (k : Nat) (u : Value) (s : DS) (v : JV) (H : List Nat) (G : List Nat), k ≤ l ∧ u = rv ∧ rm = .int .i64 ((M - v.pos : Nat) : Int) ∧ gn = .int .i64 v.gen ∧ iv = .int .i64 (k : Nat) ∧ Kept (FullS nn s v k) ∧ Kept (Sy Jk wr H t d j nn s v) ∧ Kept (Og wr 33 u v.recs G) ∧ Kept (Disj G H ∧ (∀ q ∈ G, w.heap.size ≤ q ∧ q < wr.heap.size)) ∧ Kept (Below w.heap.size w wr) ∧ Kept (∀ q ∈ H, w.heap.size ≤ q)) (fun _ _ _ iv _ => l - (lenJ iv).toNat)
  case atStart => exact ⟨0, _, newD nn, noJ, H, [], by omega, rfl, rfl, rfl, rfl, HFN, SY4, ⟨Og.nil _ _ _⟩, ⟨fun _ h => by simp at h, by simp⟩, HB4, HL4⟩
  case round =>
    clear HFN SY4 HB4 HL4
    obtain ⟨k, u, s, v, H, G, hk, rfl, rfl, rfl, rfl, FS, SY, OG, DG, HB, HL⟩ := hrel
    by_cases hkl : k < l
    · have hkl' : (k : Int) < (l : Int) := by omega
      have hat := RI.out.below HB.out
      obtain ⟨b0, o0, rfl, hcs⟩ := hat.2.resolve_left (by omega)
      have hcell := hcs k hkl
      clear hcs hat
      go_upto_region 18 with (fail)
      obtain ⟨kk, hkk⟩ : ∃ kk : Nat, bits .and .i64 (at_ xs k) 127 = (kk : Int) := ⟨(at_ xs k % 128).toNat, by rw [i64_and127]; omega⟩
      have hk7 : kk ≤ 127 := by
        have h1 := i64_and127 (at_ xs k)
        rw [hkk] at h1
        omega
      rw [hkk]
      clear hkk hcell
      obtain ⟨wo, hwo⟩ : ∃ x, x = wr := ⟨_, rfl⟩
      subst hwo
      obtain ⟨w5, hmk, bk5, b5⟩ := make_blk wo kk (by omega)
      obtain ⟨Bk, hBk⟩ : ∃ q, wo.heap.size = q := ⟨_, rfl⟩
      have hBw : w.heap.size ≤ Bk := by rw [← hBk]; exact HB.out.size
      rw [hBk] at hmk bk5 b5
      have MB := Kept.mk b5
      have BK5 := Kept.mk bk5
      clear b5 bk5
      have hW8 : IntKind.u8.wrap (k : Int) = (k : Int) := by rw [IntKind.wrap_u8']; omega
      go_wp2_with fail
      go_loopw [15] (fun mm wx => ∃ q : Nat, q ≤ kk ∧ mm = .int .i64 (q : Nat) ∧ Kept (Blk wx Bk 5 (arr .u8 (List.replicate q (k : Int) ++ List.replicate (kk - q) 0))) ∧ Kept (Below Bk wo wx)) (fun mm _ => kk - (lenJ mm).toNat)
      case atStart => exact ⟨0, by omega, rfl, by simpa using BK5, MB⟩
      case round =>
        clear BK5 MB hmk
        obtain ⟨q, hq7, rfl, BQ, MQ⟩ := hrel
        by_cases hqk : q < kk
        · have hqk' : (q : Int) < (kk : Int) := by omega
          have z := BQ.out.frozen q
          have y : ∃ u, wr.cell? ⟨Bk, q, none⟩ = some u := ⟨_, by rw [BQ.out.cell q]; exact Array.getElem?_eq_getElem (by simp [arr, ints]; omega)⟩
          obtain ⟨uq, y⟩ := y
          have BQ2 := Kept.mk (BQ.out.set_ q (.int .u8 (k : Int)))
          rw [fill_step hqk] at BQ2
          have MQ2 : Kept (Below Bk wo (wr.setCell ⟨Bk, q, none⟩ (.int .u8 (k : Int)))) := ⟨MQ.out.setCell (p := ⟨Bk, q, none⟩) (Nat.le_refl _) _⟩
          clear BQ MQ
          go_wp2
          go_roundw
          case rel => exact ⟨q + 1, by omega, by go_num, BQ2, MQ2⟩
          case measure => simp only [lenJ]; omega
        · have hqk' : ¬ (q : Int) < (kk : Int) := by omega
          obtain rfl : q = kk := by omega
          rw [Nat.sub_self, List.replicate_zero, List.append_nil] at BQ
          obtain ⟨wf, hwf⟩ : ∃ x, x = wr := ⟨_, rfl⟩
          subst hwf
          have hb6 : Bytes (List.replicate q (k : Int)) := fun x hx => by have := List.eq_of_mem_replicate hx; omega
          have RD := Kept.mk (Rd.blk (n := q) BQ.out hb6 (by simp))
          obtain ⟨b, hb⟩ : ∃ b, List.replicate q (k : Int) = b := ⟨_, rfl⟩
          have hbl : b.length = q := by rw [← hb]; simp
          rw [hb] at RD hb6
          have hBB : Below wo.heap.size wo wf := by rw [hBk]; exact MQ.out
          have SYa := Kept.mk (SY.out.keep api.base (barOf hBB []) (fun _ _ => by simp))
          have OGa := Kept.mk (OG.out.keep (barOf hBB []) (fun _ _ => by simp))
          have HBa := Kept.mk (HB.out.trans (hBB.mono HB.out.size))
          have HLTH : Kept (∀ x ∈ H, x < Bk) := ⟨fun x hx => by rw [← hBk]; exact SY.out.lts api.base x hx⟩
          have HLTG : Kept (∀ x ∈ G, w.heap.size ≤ x ∧ x < Bk) := ⟨fun x hx => by rw [← hBk]; exact DG.out.2 x hx⟩
          have DGa := Kept.mk DG.out.1
          have hBf : Bk < wf.heap.size := BQ.out.lt
          obtain ⟨nd, hnd⟩ : ∃ nd, kF b = nd := ⟨_, rfl⟩
          have hnd2 : nd = (24 + q + 62) / 63 := by rw [← hnd]; unfold kF; rw [hbl]
          have hqn : Int.tdiv (24 + (q : Int) + 62) 63 = (nd : Int) := by rw [Int.tdiv_eq_ediv_of_nonneg (by omega), hnd2]; omega
          have hrl : v.recs.length ≤ 100 := by have h1 := FS.out.seq; have h2 := FS.out.keeps.seq; omega
          have hnd9 : nd ≤ 4 ∧ 1 ≤ nd := by omega
          have HND := Kept.mk hnd
          have CA := Kept.mk (api.append SYa.out RD.out (new_off HLTH.out) (Nat.le_refl q) (by omega) (by omega))
          clear hnd2 hbl hb BQ MQ SY OG DG HB hnd hBB
          by_cases hin : nd ≤ M - v.pos
          · obtain ⟨s', hs1, FS2⟩ := full_in FS.out (by omega) hb6 (by have := RD.out.1; omega) (by rw [HND.out, HM.out]; exact hin)
            have FS2 := Kept.mk FS2
            obtain ⟨v', hv'⟩ : ∃ x, plusJ v b = x := ⟨_, rfl⟩
            have HV' := Kept.mk hv'
            rw [hs1] at CA
            have hle : ((nd : Int) ≤ ((M - v.pos : Nat) : Int)) = True := eq_true (by omega)
            clear hs1
            go_wp2_with fail
            refine CA.out.mono ?_
            rintro e wA ⟨rfl, H', sy, fp⟩
            simp only at sy
            obtain ⟨HBb, HL2⟩ := step_fp HBa fp HL
            have DGb : Kept (Disj G H') := ⟨(DGa.out.symm.step fp (fun x hx => by have := HLTG.out x hx; omega)).symm⟩
            have OGb := Kept.mk (OGa.out.keep fp.1 DGa.out)
            have RDb := Kept.mk (RD.out.far fp.1 (new_off HLTH.out))
            have hBH : Kept (Bk ∉ H') := ⟨fun hm => by
              rcases fp.2 Bk hm with e | e
              · have := HLTH.out Bk e; omega
              · omega⟩
            have szA := fp.1.size
            have SYb := Kept.mk sy
            clear CA sy fp SYa OGa HBa RD FS
            go_upto_region 28 with (fail)
            have ba : Bar [] wA (wA.alloc (.cells #[.slice (some ⟨Bk, 0, none⟩) q q] 33)) := barOf ((Below.refl _ _).alloc (Nat.le_refl _) _) []
            have cB : (wA.alloc (.cells #[.slice (some ⟨Bk, 0, none⟩) q q] 33)).cell? ⟨wA.heap.size, 0, none⟩ = some (.slice (some ⟨Bk, 0, none⟩) q q) := (Blk.new wA 33 #[.slice (some ⟨Bk, 0, none⟩) q q]).cell 0
            have OGc := (OGb.out.keep ba (fun _ _ => by simp)).mono (G' := G ++ [Bk]) (fun x hx => by simp [hx])
            have RDc := RDb.out.far ba (RDb.out.off (by simp))
            have SYc := SYb.out.keep api.base ba (fun _ _ => by simp)
            have hvo : ∀ x ∈ u.ownBlock.toList, x ∈ G := OGb.out.choose_spec.2.1
            have hoff : Off (some ⟨Bk, 0, none⟩) q u.ownBlock.toList := .inr ⟨Bk, 0, rfl, fun hm => by have := HLTG.out Bk (hvo Bk hm); omega⟩
            obtain ⟨u8, w9, hrun, og9, fp9⟩ := run_append_og (P := Try.prog) 32 32 33 Try.underlying32 info_rowF OGc wA.heap.size 1 (some ⟨Bk, 0, none⟩) q q b cB RDc (Nat.le_refl q) (by omega) (.inr ⟨Bk, 0, rfl, by simp⟩) hoff (by omega)
            go_upto_region 29 with ((with_reducible refine sel 104 ?_); refine Lib.wpList_append_run _ rfl (.tmp 101) (.tmp 103) 32 32 rfl _ _ rfl rfl _ _ hrun ?_)
            have SY2 := Kept.mk (SYc.keep api.base fp9.1 (fun x hx hx2 => DGb.out x (hvo x hx2) hx))
            have HB2 := Kept.mk (HBb.out.trans ((show Below w.heap.size wA (wA.alloc (.cells #[.slice (some ⟨Bk, 0, none⟩) q q] 33)) from (Below.refl _ _).alloc HBb.out.size _).trans (fp9.1.below (by have := ba.size; have := HBb.out.size; omega) (fun x hx => (HLTG.out x (hvo x hx)).1))))
            have V9L : ∀ x ∈ u8.ownBlock.toList, x < w9.heap.size := fun x hx => (og9.choose_spec.1.lt x (by simpa using hx)).2
            have DG2 : Kept (Disj (u8.ownBlock.toList ++ (G ++ [Bk])) H' ∧ ∀ x ∈ u8.ownBlock.toList ++ (G ++ [Bk]), w.heap.size ≤ x ∧ x < w9.heap.size) := ⟨by
              have s1 := ba.size
              have s2 := fp9.1.size
              have hmem : ∀ x ∈ u8.ownBlock.toList ++ (G ++ [Bk]), (x ∈ G ∨ x = Bk) ∨ ((wA.alloc (.cells #[.slice (some ⟨Bk, 0, none⟩) q q] 33)).heap.size ≤ x ∧ x < w9.heap.size) := fun x hx => by
                rcases List.mem_append.1 hx with hx | hx
                · rcases fp9.2 x hx with e | e
                  · exact .inl (.inl (hvo x e))
                  · exact .inr ⟨e, V9L x hx⟩
                · rcases List.mem_append.1 hx with hx | hx
                  · exact .inl (.inl hx)
                  · exact .inl (.inr (by simpa using hx))
              refine ⟨fun x hx hx2 => ?_, fun x hx => ?_⟩
              · rcases hmem x hx with (e | e) | e
                · exact DGb.out x e hx2
                · subst e; exact hBH.out hx2
                · have := SYb.out.lts api.base x hx2; omega
              · rcases hmem x hx with (e | e) | e
                · have := HLTG.out x e; omega
                · subst e; omega
                · have := HBb.out.size; omega⟩
            have hrec : v'.recs = v.recs ++ [b] := by rw [← hv']; rfl
            have hgen : v.gen = v'.gen := by rw [← hv']; rfl
            have hpos : v'.pos = v.pos + nd := by rw [← hv', ← HND.out]; rfl
            have OG2 := Kept.mk og9
            rw [← hrec] at OG2
            obtain ⟨G', hG'⟩ : ∃ x, u8.ownBlock.toList ++ (G ++ [Bk]) = x := ⟨_, rfl⟩
            rw [hG'] at OG2 DG2
            rw [hv'] at FS2 SY2
            have hsub : ((M - v.pos : Nat) : Int) - (nd : Int) = ((M - v'.pos : Nat) : Int) := by omega
            clear hrun og9 fp9 SYc OGc RDc cB ba hvo hoff V9L DGb OGb RDb hBH SYb HBb hv' hrec hpos hG' HLTH HLTG DGa hb6 HV' HND hle
            go_upto_region 38 with (fail)
            rw [hgen]
            clear hsub hgen
            have FR2 := FS2.out.room
            rw [HM.out] at FR2
            obtain ⟨Au, cu, hu, hcu1, hcu2, rwsU⟩ := OG2.out.rws
            subst hu
            have RU := Kept.mk rwsU
            have CR := Kept.mk (api.records SY2.out)
            have hfr := Kept.mk FR2
            clear rwsU FR2
            go_wp2_with fail
            refine CR.out.mono ?_
            rintro e wy ⟨Ay, cy, rfl, hy1, hy2, rwy, by3, -⟩
            have RU3 := Kept.mk (RU.out.below by3)
            have SY3 := Kept.mk (SY2.out.keep api.base (barOf by3 []) (fun _ _ => by simp))
            have OG3 := Kept.mk (OG2.out.keep (barOf by3 []) (fun _ _ => by simp))
            have HB3 := Kept.mk (HB2.out.trans (by3.mono HB2.out.size))
            have DG3 := Kept.mk (dg_mono DG2.out by3.size)
            have CLs := lists_any Ay Au v'.recs.length v'.recs.length cy cu _ _ wy rwy RU3.out (by omega)
            rw [like_self (L := v'.recs) (n := v'.recs.length) (m := v'.recs.length) (X := rowOf v'.recs) (Y := fun i => v'.recs.getD i []) rfl rfl (fun _ _ => rfl) (fun _ _ => rfl)] at CLs
            have CL2 := Kept.mk CLs
            clear CLs CR RU SY2 OG2 HB2 DG2 by3 rwy RU3
            go_wp2_with fail
            refine CL2.out.mono ?_
            rintro e wz ⟨rfl, bz⟩
            have SY4 := Kept.mk (SY3.out.keep api.base (barOf bz []) (fun _ _ => by simp))
            have OG4 := Kept.mk (OG3.out.keep (barOf bz []) (fun _ _ => by simp))
            have HB4 := Kept.mk (HB3.out.trans (bz.mono HB3.out.size))
            have DG4 := Kept.mk (dg_mono DG3.out bz.size)
            have CRm := api.room SY4.out FS2.out.dead
            rw [hfr.out.1] at CRm
            have CRM := Kept.mk CRm
            clear CRm CL2 SY3 OG3 HB3 DG3 bz
            go_wp2_with fail
            refine CRM.out.mono ?_
            rintro e wu ⟨rfl, bu⟩
            have SY5 := Kept.mk (SY4.out.keep api.base (barOf bu []) (fun _ _ => by simp))
            have OG5 := Kept.mk (OG4.out.keep (barOf bu []) (fun _ _ => by simp))
            have HB5 := Kept.mk (HB4.out.trans (bu.mono HB4.out.size))
            have DG5 := Kept.mk (dg_mono DG4.out bu.size)
            have CG := Kept.mk (api.gen SY5.out)
            clear CRM SY4 OG4 HB4 DG4 bu
            go_wp2_with fail
            refine CG.out.mono ?_
            rintro e wv ⟨rfl, bv⟩
            have SY6 := Kept.mk (SY5.out.keep api.base (barOf bv []) (fun _ _ => by simp))
            have OG6 := Kept.mk (OG5.out.keep (barOf bv []) (fun _ _ => by simp))
            have HB6 := Kept.mk (HB5.out.trans (bv.mono HB5.out.size))
            have DG6 := Kept.mk (dg_mono DG5.out bv.size)
            clear CG SY5 OG5 HB5 DG5 bv
            go_wp2
            go_roundw
            case rel => exact ⟨k + 1, _, s', v', H', G', by omega, rfl, rfl, rfl, by go_num, FS2, SY6, OG6, DG6, HB6, HL2⟩
            case measure => simp only [lenJ]; omega
          · have hbk : Bytes [1, 2, (k : Int)] := fun x hx => by simp only [List.mem_cons, List.not_mem_nil, or_false] at hx; omega
            obtain ⟨hs0, s', hs1, FSx, hp1⟩ := full_out (c := [1, 2, (k : Int)]) FS.out (by omega) hn4 hb6 (by have := RD.out.1; omega) (by rw [HND.out, HM.out]; omega) hbk rfl
            have FS2 := Kept.mk FSx
            obtain ⟨v', hv'⟩ : ∃ x, pictJ v [1, 2, (k : Int)] = x := ⟨_, rfl⟩
            rw [hs0] at CA
            have hle : ((nd : Int) ≤ ((M - v.pos : Nat) : Int)) = False := eq_false (by omega)
            clear hs0
            go_wp2_with fail
            refine CA.out.mono ?_
            rintro e wA ⟨rfl, H1, sy, fp⟩
            simp only at sy
            obtain ⟨HBb, HL1⟩ := step_fp HBa fp HL
            have SYb := Kept.mk sy
            clear CA sy fp SYa OGa HBa RD FS DGa hb6 HND HLTH HLTG
            obtain ⟨cx, hcx⟩ : ∃ cx, ([1, 2, (k : Int)] : List Int) = cx := ⟨_, rfl⟩
            have bc : Below wA.heap.size wA (wA.alloc (.cells #[.int .u8 1, .int .u8 2, .int .u8 (k : Int)] 5)) := (Below.refl _ _).alloc (Nat.le_refl _) _
            have rc : Rd (wA.alloc (.cells #[.int .u8 1, .int .u8 2, .int .u8 (k : Int)] 5)) (some ⟨wA.heap.size, 0, none⟩) 3 [1, 2, (k : Int)] := Rd.blk (xs := [1, 2, (k : Int)]) (Blk.new wA 5 #[.int .u8 1, .int .u8 2, .int .u8 (k : Int)]) hbk rfl
            have SYc := SYb.out.keep api.base (barOf bc []) (fun _ _ => by simp)
            have HBc := Kept.mk (HBb.out.trans (bc.mono HBb.out.size))
            have CC := Kept.mk (api.compact SYc rc (new_off (SYb.out.lts api.base)) (Nat.le_refl 3) (by omega) (by omega))
            rw [hs1, hv'] at CC
            have hgw : wrap64 (v.gen + 1) = v.gen + 1 := by have := FS2.out.gen; rw [hv'] at this; have hx : v'.gen = v.gen + 1 := by rw [← hv']; rfl
                                                            unfold wrap64; omega
            clear SYc rc hs1 SYb HBb
            go_wp2_with fail
            refine CC.out.mono ?_
            rintro e wC ⟨rfl, H', sy, fp⟩
            simp only at sy
            obtain ⟨HBd, HL2⟩ := step_fp HBc fp HL1
            have SYd := Kept.mk sy
            have CP := Kept.mk (api.picture SYd.out)
            clear CC sy fp HBc HL1 bc
            go_wp2_with fail
            refine CP.out.mono ?_
            rintro e wP ⟨AP, nP, cP, rfl, -, -, rP, bP⟩
            have hhas : v'.has = true := by rw [← hv']; rfl
            have hpict : v'.pict = [1, 2, (k : Int)] := by rw [← hv']; rfl
            rw [hhas]
            rw [hpict] at rP
            have SYe := Kept.mk (SYd.out.keep api.base (barOf bP []) (fun _ _ => by simp))
            have HBe := Kept.mk (HBd.out.trans (bP.mono HBd.out.size))
            have rl : Rd (wP.alloc (.cells #[.int .u8 1, .int .u8 2, .int .u8 (k : Int)] 5)) (some ⟨wP.heap.size, 0, none⟩) 3 [1, 2, (k : Int)] := Rd.blk (xs := [1, 2, (k : Int)]) (Blk.new wP 5 #[.int .u8 1, .int .u8 2, .int .u8 (k : Int)]) hbk rfl
            have bl : Below wP.heap.size wP (wP.alloc (.cells #[.int .u8 1, .int .u8 2, .int .u8 (k : Int)] 5)) := (Below.refl _ _).alloc (Nat.le_refl _) _
            have CB := Kept.mk (bytes_same AP (some ⟨wP.heap.size, 0, none⟩) nP 3 cP 3 [1, 2, (k : Int)] _ (rP.below bl) rl)
            have SY2 := Kept.mk (SYe.out.keep api.base (barOf bl []) (fun _ _ => by simp))
            have HB2 := Kept.mk (HBe.out.trans (bl.mono HBe.out.size))
            have OG2 : Kept (Og (wP.alloc (.cells #[.int .u8 1, .int .u8 2, .int .u8 (k : Int)] 5)) 33 (.slice none 0 0) v'.recs []) := ⟨by rw [← hv']; exact Og.nil _ _ _⟩
            have DG2 : Kept (Disj ([] : List Nat) H' ∧ ∀ x ∈ ([] : List Nat), w.heap.size ≤ x ∧ x < (wP.alloc (.cells #[.int .u8 1, .int .u8 2, .int .u8 (k : Int)] 5)).heap.size) := ⟨fun _ h => by simp at h, fun _ h => by simp at h⟩
            have HR0 : Kept (v'.recs = []) := ⟨by rw [← hv']; rfl⟩
            have HGEN : Kept (v.gen + 1 = v'.gen) := ⟨by rw [← hv']; rfl⟩
            have hpos : v'.pos = 1 := by rw [← hv']; exact hp1
            have hsub : (M : Int) - 1 = ((M - v'.pos : Nat) : Int) := by omega
            obtain ⟨G', hG'⟩ : ∃ x : List Nat, [] = x := ⟨_, rfl⟩
            rw [hG'] at OG2 DG2
            rw [hv'] at FS2
            clear CP rP bP SYd HBd SYe HBe rl bl hhas hpict hv' hp1 hpos hG' hle hcx hbk FSx
            go_wp2_with fail
            refine CB.out.mono ?_
            rintro e w' ⟨rfl, rfl⟩
            clear CB
            go_upto_region 38 with (fail)
            generalize (wP.alloc (.cells #[.int .u8 1, .int .u8 2, .int .u8 (k : Int)] 5)) = wQ at *
            rw [HGEN.out]
            clear hsub HGEN hgw
            have FR2 := FS2.out.room
            rw [HM.out] at FR2
            have HR1 : Kept (0 = v'.recs.length) := ⟨by rw [HR0.out]; rfl⟩
            have RU : Kept (∀ W, Rws W none 0 (fun i => v'.recs.getD i [])) := ⟨fun _ => .inl rfl⟩
            have CR := Kept.mk (api.records SY2.out)
            have hfr := Kept.mk FR2
            clear FR2
            go_wp2_with fail
            refine CR.out.mono ?_
            rintro e wy ⟨Ay, cy, rfl, hy1, hy2, rwy, by3, -⟩
            have RU3 := Kept.mk (RU.out wy)
            have SY3 := Kept.mk (SY2.out.keep api.base (barOf by3 []) (fun _ _ => by simp))
            have OG3 := Kept.mk (OG2.out.keep (barOf by3 []) (fun _ _ => by simp))
            have HB3 := Kept.mk (HB2.out.trans (by3.mono HB2.out.size))
            have DG3 := Kept.mk (dg_mono DG2.out by3.size)
            have CLs := lists_any Ay none v'.recs.length 0 cy 0 _ _ wy rwy RU3.out (by omega)
            rw [like_self (L := v'.recs) (n := v'.recs.length) (m := 0) (X := rowOf v'.recs) (Y := fun i => v'.recs.getD i []) rfl HR1.out (fun _ _ => rfl) (fun _ _ => rfl)] at CLs
            have CL2 := Kept.mk CLs
            clear CLs CR RU HR1 SY2 OG2 HB2 DG2 by3 rwy RU3
            go_wp2_with fail
            refine CL2.out.mono ?_
            rintro e wz ⟨rfl, bz⟩
            have SY4 := Kept.mk (SY3.out.keep api.base (barOf bz []) (fun _ _ => by simp))
            have OG4 := Kept.mk (OG3.out.keep (barOf bz []) (fun _ _ => by simp))
            have HB4 := Kept.mk (HB3.out.trans (bz.mono HB3.out.size))
            have DG4 := Kept.mk (dg_mono DG3.out bz.size)
            have CRm := api.room SY4.out FS2.out.dead
            rw [hfr.out.1] at CRm
            have CRM := Kept.mk CRm
            clear CRm CL2 SY3 OG3 HB3 DG3 bz
            go_wp2_with fail
            refine CRM.out.mono ?_
            rintro e wu ⟨rfl, bu⟩
            have SY5 := Kept.mk (SY4.out.keep api.base (barOf bu []) (fun _ _ => by simp))
            have OG5 := Kept.mk (OG4.out.keep (barOf bu []) (fun _ _ => by simp))
            have HB5 := Kept.mk (HB4.out.trans (bu.mono HB4.out.size))
            have DG5 := Kept.mk (dg_mono DG4.out bu.size)
            have CG := Kept.mk (api.gen SY5.out)
            clear CRM SY4 OG4 HB4 DG4 bu
            go_wp2_with fail
            refine CG.out.mono ?_
            rintro e wv ⟨rfl, bv⟩
            have SY6 := Kept.mk (SY5.out.keep api.base (barOf bv []) (fun _ _ => by simp))
            have OG6 := Kept.mk (OG5.out.keep (barOf bv []) (fun _ _ => by simp))
            have HB6 := Kept.mk (HB5.out.trans (bv.mono HB5.out.size))
            have DG6 := Kept.mk (dg_mono DG5.out bv.size)
            clear CG SY5 OG5 HB5 DG5 bv
            go_wp2
            go_roundw
            case rel => exact ⟨k + 1, _, s', v', H', G', by omega, rfl, rfl, rfl, by go_num, FS2, SY6, OG6, DG6, HB6, HL2⟩
            case measure => simp only [lenJ]; omega
    · have hkl' : ¬ (k : Int) < (l : Int) := by omega
      have FR2 := FS.out.room
      rw [HM.out] at FR2
      have hfr := Kept.mk FR2
      obtain ⟨HS, sd, hsub⟩ := SY.out.sd
      have SD := Kept.mk sd
      have CO := Kept.mk (api.open_ SD.out)
      have HLS : Kept (∀ x ∈ HS, w.heap.size ≤ x) := ⟨fun x hx => HL.out x (hsub x hx)⟩
      have DGS : Kept (Disj G HS) := ⟨fun x hx hx2 => DG.out.1 x hx (hsub x hx2)⟩
      obtain ⟨Au, cu, hu, hcu1, hcu2, -⟩ := OG.out.rws
      subst hu
      clear FR2 sd hsub RI hkl
      go_wp2_with fail
      refine CO.out.mono ?_
      rintro e wa ⟨j2, H2, rfl, sy, fp⟩
      rw [FS.out.open_is] at sy
      obtain ⟨HBa, HL2⟩ := step_fp HB fp HLS
      have SYa := Kept.mk sy
      have OGa := Kept.mk (OG.out.keep fp.1 DGS.out)
      have CF := Kept.mk (jfirst_any api wa)
      clear CO SD sy fp HB HLS DGS OG SY HL DG
      go_wp2_with fail
      refine CF.out.mono ?_
      rintro e wb ⟨rfl, b1⟩
      have SYb := Kept.mk (SYa.out.keep api.base (barOf b1 []) (fun _ _ => by simp))
      have OGb := Kept.mk (OGa.out.keep (barOf b1 []) (fun _ _ => by simp))
      have HBb := Kept.mk (HBa.out.trans (b1.mono HBa.out.size))
      have CR := Kept.mk (api.records SYb.out)
      clear CF SYa OGa HBa b1
      go_wp2_with fail
      refine CR.out.mono ?_
      rintro e wy ⟨Ay, cy, rfl, hy1, hy2, rwy, by3, -⟩
      obtain ⟨Au2, cu2, hu2, -, -, rwsU⟩ := (OGb.out.keep (barOf by3 []) (fun _ _ => by simp)).rws
      injection hu2 with e1 e2 e3
      subst e1 e3
      have SYc := Kept.mk (SYb.out.keep api.base (barOf by3 []) (fun _ _ => by simp))
      have HBc := Kept.mk (HBb.out.trans (by3.mono HBb.out.size))
      have CLs := lists_any Ay Au v.recs.length v.recs.length cy cu _ _ wy rwy rwsU (by omega)
      rw [like_self (L := v.recs) (n := v.recs.length) (m := v.recs.length) (X := rowOf v.recs) (Y := fun i => v.recs.getD i []) rfl rfl (fun _ _ => rfl) (fun _ _ => rfl)] at CLs
      have CL2 := Kept.mk CLs
      clear CLs CR SYb OGb HBb by3 rwy rwsU e2
      go_wp2_with fail
      refine CL2.out.mono ?_
      rintro e wz ⟨rfl, bz⟩
      have SYd := Kept.mk (SYc.out.keep api.base (barOf bz []) (fun _ _ => by simp))
      have HBd := Kept.mk (HBc.out.trans (bz.mono HBc.out.size))
      have CG := Kept.mk (api.gen SYd.out)
      clear CL2 SYc HBc bz
      go_wp2_with fail
      refine CG.out.mono ?_
      rintro e wv ⟨rfl, bv⟩
      have SYe := Kept.mk (SYd.out.keep api.base (barOf bv []) (fun _ _ => by simp))
      have HBe := Kept.mk (HBd.out.trans (bv.mono HBd.out.size))
      have CRm := api.room SYe.out FS.out.dead
      rw [hfr.out.1] at CRm
      have CRM := Kept.mk CRm
      clear CRm CG SYd HBd bv
      go_wp2_with fail
      refine CRM.out.mono ?_
      rintro e wu ⟨rfl, bu⟩
      have SYf := Kept.mk (SYe.out.keep api.base (barOf bu []) (fun _ _ => by simp))
      have HBf := Kept.mk (HBe.out.trans (bu.mono HBe.out.size))
      have CPd : Kept (Calls Try.prog 16 #[.pointer (some ⟨d, 0, none⟩)] wu fun e w' => e = .returned (.int .i64 0) ∧ wu = w') := ⟨by
        obtain ⟨F0, G0, -, dk0, -⟩ := SYf.out
        have h := cpending_any dk0
        rw [FS.out.calm.pend] at h
        exact h⟩
      clear CRM SYe HBe bu
      go_wp2_with fail
      refine CPd.out.mono ?_
      rintro e w' ⟨rfl, rfl⟩
      clear CPd SYf
      go_wp2
      go_ret
      exact ⟨rfl, HBf.out⟩
end Go.Proofs.Ytjlhnhkjgcbnnaa.Journal
