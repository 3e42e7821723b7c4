/-
  The law PostKeeps, walked.
-/
import Derived.Test.YtjnpcfpalckkdaaPostFirst
import Derived.Test.YtjnpcfpalckkdaaPostOps
import Derived.Test.YtjnpcfpalckkdaaPostTwo
import Derived.Test.YtjnpcfpalckkdaaPostKeepsV
import Derived.Test.YtjnpcfpalckkdaaPostRDrop
import Derived.Test.YtjnpcfpalckkdaaTakes
import Derived.Deep.CutBlock
import Derived.Deep.CutRange
namespace Go.Proofs.Ytjnpcfpalckkdaa.Post
open Go.RowKit Go.Proofs.Ytjnpcfpalckkdaa.Sha

def Z256 : Array Value := (List.replicate 256 (Value.int .i64 0)).toArray
theorem z256 : Z256 = arr .i64 (tab []) := by
  unfold Z256 arr ints
  rw [tab_nil, List.map_replicate]
theorem info_arr : (Try.prog.info? 48).map (fun i => i.zero) = some (some (.agg Z256)) := by kernel_rfl
theorem zero_arr (w : World) : (zeroValue 48).run Try.prog w = .ok (.agg Z256) w := by
  have h := info_arr
  cases hi : Try.prog.info? 48 with
  | none => rw [hi] at h; cases h
  | some i =>
    rw [hi] at h
    have hz : i.zero = some (.agg Z256) := by simpa using h
    simp [zeroValue, typeInfo, hi, hz]
set_option maxRecDepth 100000 in
set_option maxHeartbeats 4000000 in
theorem pkeeps_walk (m0 : Int) (A : Option Addr) (n c : Nat) (X : Nat → OpV) (w : World) (hr : Ops w A n X) : Calls Try.prog 4 #[.int .i64 m0, .slice A n c] w fun e w' => e = .returned (.bool true) ∧ Below w.heap.size w w' := by
  obtain ⟨N, hN⟩ : ∃ N, w.heap.size = N := ⟨_, rfl⟩
  have HX := Kept.mk hr
  clear hr
  have EN : Kept (∀ wz, Below N w wz → Calls Try.prog 7 #[] wz fun e w' => e = .returned (.bool true) ∧ Below N w w') := ⟨fun wz hz => (first_any wz).mono (fun e w' h => ⟨h.1, hz.trans (h.2.mono (by have := hz.size; omega))⟩)⟩
  go_enter Try.func4, Try.ntmps4
  go_wp2_with fail
  refine (EN.out w (Below.refl _ _)).mono ?_
  rintro e w1 ⟨rfl, b1⟩
  have B := Kept.mk b1
  clear b1
  by_cases hm : 1 ≤ m0 ∧ m0 ≤ 200
  · obtain ⟨m, hmm⟩ : ∃ z, m0 = z := ⟨_, rfl⟩
    rw [hmm] at hm ⊢
    have hs2 := B.out.size
    go_wp2_with fail
    refine (cnew_any m N w1 hm (by omega)).mono ?_
    rintro e w3 ⟨rfl, hp, bb⟩
    obtain ⟨x, hx⟩ : ∃ x, w1.heap.size = x := ⟨_, rfl⟩
    rw [hx] at hp ⊢
    have P := Kept.mk hp
    replace B := Kept.mk (low_trans B.out bb (by omega))
    clear hp bb hx hs2 hmm
    have hs2 := P.out.root
    have CF := few_any A n c X w3 (HX.out.below (hN.symm ▸ B.out))
    unfold FewP at CF
    replace CF := Kept.mk CF
    go_wp2_with fail
    refine CF.out.mono ?_
    rintro e w2 ⟨t, rfl, ht, b2⟩
    replace B := Kept.mk (low_trans B.out b2 (by omega))
    replace P := Kept.mk (P.out.below b2)
    clear CF b2 hs2
    cases t with
    | false =>
      go_wp2_with fail
      refine (EN.out w2 B.out).mono ?_
      rintro e wz ⟨rfl, bb⟩
      replace B := Kept.mk bb
      clear bb
      go_wp2
      go_ret
      exact ⟨rfl, hN.symm ▸ B.out⟩
    | true =>
      have hn := ht rfl
      clear ht
      obtain ⟨K, hK⟩ : ∃ z, w2.heap.size = z := ⟨_, rfl⟩
      have bb : Below w2.heap.size w2 (w2.alloc (.cells Z256 48)) := (Below.refl _ _).alloc (Nat.le_refl _) _
      have KB : Kept (Hd (w2.alloc (.cells Z256 48)) [x] K 48 (arr .i64 (tab []))) := ⟨by
        rw [← z256]
        exact Hd.new 48 Z256 hK.symm (by intro z hz; rw [List.mem_singleton] at hz; have := P.out.root; omega)⟩
      have hKN : N ≤ K := by have := P.out.root; omega
      replace B := Kept.mk (low_trans B.out bb (by have := P.out.root; omega)); replace P := Kept.mk (P.out.below bb)
      clear bb
      have hza := zero_arr
      go_upto_region 7 with (fail)
      clear hK hza
      generalize w2.alloc (.cells Z256 48) = w4 at *
      have AL : Kept (AllK []) := ⟨fun p hp => by cases hp⟩
      go_wp2_with fail
      go_loopw [8, 9] (fun aw i wr => ∃ (k : Nat) (l : List PV) (F : List Nat), k ≤ n ∧ aw = .int .i64 l.length ∧ i = .int .i64 k ∧ Kept (AllK l) ∧ Kept (Ps 52 F N wr x m l) ∧ Kept (Hd wr F K 48 (arr .i64 (tab l))) ∧ Kept (Below N w wr)) (fun _ i _ => n - (Go.RowKit.intOf i).toNat)
      case atStart => exact ⟨0, [], [x], by omega, rfl, rfl, AL, P, KB, B⟩
      case round =>
        clear P B AL KB
        obtain ⟨i, l, F, hk, rfl, rfl, AL, P, KB, B⟩ := hrel
        by_cases hlt : i < n
        · have hlt' : (i : Int) < n := by omega
          obtain ⟨g, o, rfl, hc⟩ := HX.out.resolve_left (by omega)
          have hb := hc i hlt
          obtain ⟨ox, hox⟩ : ∃ q, X i = q := ⟨_, rfl⟩
          rw [hox] at hb
          clear hc hox
          obtain ⟨kd, nn, xs⟩ := ox
          obtain ⟨aB, lB, cB, h1, h2⟩ := hb
          dsimp only at h1 h2
          have t0 : wr.cell? ⟨g, o + i * 3, none⟩ = some (.int .i64 kd) := by have hh := h1 0 _ rfl; rw [B.out.cell (by have := World.block_lt_of_cell? _ _ hh; simp at this ⊢; omega)]; exact hh
          have t1 : wr.cell? ⟨g, o + i * 3 + 1, none⟩ = some (.int .i64 nn) := by have hh := h1 1 _ rfl; rw [B.out.cell (by have := World.block_lt_of_cell? _ _ hh; simp at this ⊢; omega)]; exact hh
          have t2 : wr.cell? ⟨g, o + i * 3 + 2, none⟩ = some (.slice aB lB cB) := by have hh := h1 2 _ rfl; rw [B.out.cell (by have := World.block_lt_of_cell? _ _ hh; simp at this ⊢; omega)]; exact hh
          clear h1 h2
          obtain ⟨O, hO⟩ : ∃ O, wr.heap.size = O := ⟨_, rfl⟩
          have bb : Below wr.heap.size wr (wr.alloc (.cells #[.int .i64 kd, .int .i64 nn, .slice aB lB cB] 34)) := (Below.refl _ _).alloc (Nat.le_refl _) _
          have OB := Kept.mk (Hd.new (E := F) 34 #[.int .i64 kd, .int .i64 nn, .slice aB lB cB] hO.symm (fun z hz => (P.out.lt z hz).2))
          replace KB := Kept.mk (KB.out.below bb)
          go_upto_region 12 with (fail)
          replace B := Kept.mk (low_trans B.out bb (by have := P.out.root; omega)); replace P := Kept.mk (P.out.below bb)
          clear bb hO t0 t1 t2
          generalize wr.alloc (.cells #[.int .i64 kd, .int .i64 nn, .slice aB lB cB] 34) = w4 at *
          have o0 := OB.out.blk.cell 0; have o1 := OB.out.blk.cell 1
          go_upto_block 2 with (fail)
          go_cut [8, 11, 12, 13, 14, 15, 16, 17, 18, 19] from 51 to 162 (fun aw _ _ _ _ _ _ _ _ _ wx => ∃ (l : List PV) (F : List Nat), aw = .int .i64 l.length ∧ Kept (AllK l) ∧ Kept (Ps 52 F N wx x m l) ∧ Kept (Hd wx F K 48 (arr .i64 (tab l))) ∧ Kept (Below N w wx))
          case first =>
            have hll := P.out.len
            by_cases h0 : kd = 0
            · subst h0
              have hand : bits .and .i64 nn 255 = nn % 256 := and255 nn
              obtain ⟨k, hkk⟩ : ∃ k : Nat, nn % 256 = k := ⟨(nn % 256).toNat, by omega⟩
              have hk256 : k < 256 := by omega
              rw [hkk] at hand
              have hw8 : IntKind.u8.wrap (k : Int) = k := by rw [IntKind.wrap_u8]; omega
              obtain ⟨M, hM⟩ : ∃ z, w4.heap.size = z := ⟨_, rfl⟩
              have bb : Below w4.heap.size w4 (w4.alloc (.cells #[.int .u8 (k : Int), .int .u8 7] 5)) := (Below.refl _ _).alloc (Nat.le_refl _) _
              have Y := Kept.mk (Blk.new_at w4 5 #[.int .u8 (k : Int), .int .u8 7] M hM.symm)
              have C := cput_any (c := 2) (k : Int) (P.out.below bb) (Rd.blk (show Blk _ M 5 (arr .u8 [(k : Int), 7]) from Y.out) (by intro y hy; simp at hy; omega) rfl)
              have PK := put_kp (l := l) (m := m) (k := k)
              rw [show [(k : Int), 7] = (kp k).b from rfl, PK.1, PK.2] at C
              replace OB := Kept.mk (OB.out.below bb); replace KB := Kept.mk (KB.out.below bb); replace B := Kept.mk (low_trans B.out bb (by have := P.out.root; omega)); replace P := Kept.mk (P.out.below bb)
              unfold NumP at C
              clear bb PK Y hkk
              by_cases hfull : (l.length : Int) = m
              · rw [if_pos hfull, if_pos hfull] at C
                replace C := Kept.mk C
                go_wp2_with fail
                refine C.out.mono ?_
                rintro e w5 ⟨F2, rfl, hp, fp⟩
                clear C o0 o1 hand hw8 hM hfull
                replace OB := Kept.mk (OB.out.step fp); replace KB := Kept.mk (KB.out.step fp); replace B := Kept.mk (P.out.step B.out fp)
                replace P := Kept.mk hp
                clear hp fp
                go_wp2
                go_meet
                case rel => exact ⟨l, F2, rfl, AL, P, KB, B⟩
              · rw [if_neg hfull, if_neg hfull] at C
                replace C := Kept.mk C
                go_wp2_with fail
                refine C.out.mono ?_
                rintro e w5 ⟨F2, rfl, hp, fp⟩
                clear C o0 o1 hand hw8 hM
                replace OB := Kept.mk (OB.out.step fp); replace KB := Kept.mk (KB.out.step fp); replace B := Kept.mk (P.out.step B.out fp); replace P := Kept.mk hp
                clear hp fp
                have kl : k < (tab l).length := by rw [tab_len]; exact hk256
                have kc : w5.cell? ⟨K, k, none⟩ = some (.int .i64 (cn l k)) := by rw [KB.out.blk.at_ _ kl, tab_at hk256]
                have kf := KB.out.blk.frozen k
                have cl := cn_le l k
                have nK : Nb w5 [K] := fun z hz => by rw [List.mem_singleton] at hz; subst hz; exact ⟨_, _, _, KB.out.blk, by decide⟩
                have b9 : Bar [K] w5 (w5.setCell ⟨K, k, none⟩ (.int .i64 ((cn l k : Int) + 1))) := (Bar.refl _ _).setCell (by simp) _
                have KB2 : Kept (Hd (w5.setCell ⟨K, k, none⟩ (.int .i64 ((cn l k : Int) + 1))) F2 K 48 (arr .i64 (tab (l ++ [kp k])))) := ⟨⟨by
                  rw [tab_push, ← arr_set]
                  exact KB.out.blk.set_ _ _, KB.out.away⟩⟩
                have P2 : Kept (Ps 52 F2 N (w5.setCell ⟨K, k, none⟩ (.int .i64 ((cn l k : Int) + 1))) x m (l ++ [kp k])) := ⟨P.out.keep b9 (fun z hz hm => KB.out.away (by rw [List.mem_singleton] at hm; exact hm ▸ hz)) nK⟩
                have B2 : Kept (Below N w (w5.setCell ⟨K, k, none⟩ (.int .i64 ((cn l k : Int) + 1)))) := ⟨B.out.trans (b9.below (by have := P.out.root; omega) (by intro z hz; rw [List.mem_singleton] at hz; subst hz; exact hKN))⟩
                clear b9 nK
                have hcn : (cn l k : Int) ≤ 200 := by omega
                have AL2 := Kept.mk (allK_push AL.out hk256)
                have hlen : Kept (((l ++ [kp k]).length : Int) = (l.length : Int) + 1) := ⟨by rw [List.length_append]; rfl⟩
                have hk255 : (k : Int) < 256 := by omega
                clear AL P KB B kl cl
                go_wp2
                go_meet
                case rel => exact ⟨l ++ [kp k], F2, by rw [hlen.out], AL2, P2, KB2, B2⟩
            · have h0f : (kd == 0) = false := by simpa using h0
              by_cases h1 : kd = 1
              · subst h1
                clear h0 h0f
                by_cases hhas : hasB nn l = true
                · obtain ⟨k, hk256, hat⟩ := allK_at AL.out hhas
                  obtain ⟨l2, hdel⟩ : ∃ z, delP nn l = z := ⟨_, rfl⟩
                  have DA := del_all AL.out hhas hat
                  rw [hdel] at DA
                  have ALD := Kept.mk DA.1; have hcnk := Kept.mk DA.2.1; have htab := Kept.mk DA.2.2.1; have hlenD := Kept.mk DA.2.2.2
                  clear DA
                  have C := cat_any nn P.out
                  rw [hat, hhas] at C
                  unfold ParP at C
                  dsimp only [kp] at C
                  replace C := Kept.mk C
                  go_wp2_with fail
                  refine C.out.mono ?_
                  rintro e w5 ⟨A1, n1, c1, F2, rfl, -, -, rb, hp, fp⟩
                  replace OB := Kept.mk (OB.out.step fp); replace KB := Kept.mk (KB.out.step fp); replace B := Kept.mk (P.out.step B.out fp)
                  replace P := Kept.mk hp
                  obtain ⟨L, hL⟩ : ∃ z, w5.heap.size = z := ⟨_, rfl⟩
                  have bb : Below w5.heap.size w5 (w5.alloc (.cells #[.int .i64 (k : Int), .slice A1 n1 c1] 37)) := (Below.refl _ _).alloc (Nat.le_refl _) _
                  have YA := Kept.mk (Hd.new 37 #[.int .i64 (k : Int), .slice A1 n1 c1] hL.symm (fun z hz => (P.out.lt z hz).2))
                  replace OB := Kept.mk (OB.out.below bb); replace KB := Kept.mk (KB.out.below bb); replace B := Kept.mk (low_trans B.out bb (by have := P.out.root; omega)); replace P := Kept.mk (P.out.below bb)
                  have RA := Kept.mk (rb.below bb)
                  clear C hp fp rb bb o0 o1
                  go_upto_region 21 with (fail)
                  clear hL
                  generalize w5.alloc (.cells #[.int .i64 (k : Int), .slice A1 n1 c1] 37) = w6 at *
                  have o0 := OB.out.blk.cell 0; have o1 := OB.out.blk.cell 1
                  have C := ctake_any nn P.out
                  rw [hat, hhas, hdel] at C
                  unfold ParP at C
                  dsimp only [kp] at C
                  replace C := Kept.mk C
                  go_wp2_with fail
                  refine C.out.mono ?_
                  rintro e w7 ⟨A2, n2, c2, F3, rfl, -, -, rb, hp, fp⟩
                  replace OB := Kept.mk (OB.out.step fp); replace KB := Kept.mk (KB.out.step fp); replace B := Kept.mk (P.out.step B.out fp)
                  have nF := P.out.nb (by decide)
                  replace YA := Kept.mk (YA.out.step fp); replace RA := Kept.mk (RA.out.keep fp.1 nF)
                  clear nF
                  replace P := Kept.mk hp
                  obtain ⟨M, hM⟩ : ∃ z, w7.heap.size = z := ⟨_, rfl⟩
                  have bb : Below w7.heap.size w7 (w7.alloc (.cells #[.int .i64 (k : Int), .slice A2 n2 c2] 37)) := (Below.refl _ _).alloc (Nat.le_refl _) _
                  have YB := Kept.mk (Hd.new 37 #[.int .i64 (k : Int), .slice A2 n2 c2] hM.symm (fun z hz => (P.out.lt z hz).2))
                  replace OB := Kept.mk (OB.out.below bb); replace KB := Kept.mk (KB.out.below bb); replace B := Kept.mk (low_trans B.out bb (by have := P.out.root; omega)); replace P := Kept.mk (P.out.below bb)
                  replace YA := Kept.mk (YA.out.below bb); replace RA := Kept.mk (RA.out.below bb)
                  have RB := Kept.mk (rb.below bb)
                  clear C hp fp rb bb o0 o1
                  go_upto_region 25 with (fail)
                  clear hM
                  generalize w7.alloc (.cells #[.int .i64 (k : Int), .slice A2 n2 c2] 37) = w8 at *
                  have o0 := OB.out.blk.cell 0; have o1 := OB.out.blk.cell 1
                  have a0 := YA.out.blk.cell 0; have a1 := YA.out.blk.cell 1; have b0 := YB.out.blk.cell 0; have b1 := YB.out.blk.cell 1
                  have C := Kept.mk (rsame_yes k A1 A2 n1 c1 n2 c2 [(k : Int), 7] w8 RA.out.1 RB.out.1)
                  go_wp2_with fail
                  refine C.out.mono ?_
                  rintro e w9 ⟨rfl, bb⟩
                  replace OB := Kept.mk (OB.out.below bb); replace KB := Kept.mk (KB.out.below bb); replace B := Kept.mk (low_trans B.out bb (by have := P.out.root; omega)); replace P := Kept.mk (P.out.below bb)
                  replace YA := Kept.mk (YA.out.below bb); replace RA := Kept.mk (RA.out.below bb)
                  clear C bb YB RB a0 a1 b0 b1
                  clear hat hhas hdel
                  have hand : bits .and .i64 (k : Int) 255 = k := by rw [and255]; omega
                  have hw8 : IntKind.u8.wrap (k : Int) = k := by rw [IntKind.wrap_u8]; omega
                  have hk255 : (k : Int) < 256 := by omega
                  have a0 := YA.out.blk.cell 0; have a1 := YA.out.blk.cell 1
                  obtain ⟨Z, hZ⟩ : ∃ z, w9.heap.size = z := ⟨_, rfl⟩
                  have bb : Below w9.heap.size w9 (w9.alloc (.cells #[.int .u8 (k : Int), .int .u8 7] 5)) := (Below.refl _ _).alloc (Nat.le_refl _) _
                  have Y := Kept.mk (Blk.new_at w9 5 #[.int .u8 (k : Int), .int .u8 7] Z hZ.symm)
                  have CB := bytes_same A1 (some ⟨Z, 0, none⟩) n1 2 c1 2 [(k : Int), 7] _ (RA.out.below bb).1 (Rd.blk (show Blk _ Z 5 (arr .u8 [(k : Int), 7]) from Y.out) (by intro y hy; simp at hy; omega) rfl)
                  replace CB := Kept.mk CB
                  replace OB := Kept.mk (OB.out.below bb); replace KB := Kept.mk (KB.out.below bb); replace B := Kept.mk (low_trans B.out bb (by have := P.out.root; omega)); replace P := Kept.mk (P.out.below bb)
                  clear bb Y RA YA o0 o1
                  have kl : k < (tab l).length := by rw [tab_len]; exact hk256
                  have kc : (w9.alloc (.cells #[.int .u8 (k : Int), .int .u8 7] 5)).cell? ⟨K, k, none⟩ = some (.int .i64 (cn l k)) := by rw [KB.out.blk.at_ _ kl, tab_at hk256]
                  clear kl
                  go_wp2_with fail
                  refine CB.out.mono ?_
                  rintro e wy ⟨rfl, rfl⟩
                  clear CB
                  have hcn1 : ((cn l k : Int) < 1) = False := eq_false (by have := hcnk.out; omega)
                  go_upto_region 31 with (fail)
                  clear kc a0 a1 hZ hw8 hand
                  generalize w9.alloc (.cells #[.int .u8 (k : Int), .int .u8 7] 5) = wt at *
                  have kl : k < (tab l).length := by rw [tab_len]; exact hk256
                  have kc : wt.cell? ⟨K, k, none⟩ = some (.int .i64 (cn l k)) := by rw [KB.out.blk.at_ _ kl, tab_at hk256]
                  have kf := KB.out.blk.frozen k
                  have cl := cn_le l k
                  have nK : Nb wt [K] := fun z hz => by rw [List.mem_singleton] at hz; subst hz; exact ⟨_, _, _, KB.out.blk, by decide⟩
                  have b9 : Bar [K] wt (wt.setCell ⟨K, k, none⟩ (.int .i64 ((cn l k : Int) - 1))) := (Bar.refl _ _).setCell (by simp) _
                  have KB2 : Kept (Hd (wt.setCell ⟨K, k, none⟩ (.int .i64 ((cn l k : Int) - 1))) F3 K 48 (arr .i64 (tab (l2)))) := ⟨⟨by
                    rw [htab.out, ← arr_set]
                    exact KB.out.blk.set_ _ _, KB.out.away⟩⟩
                  have P2 : Kept (Ps 52 F3 N (wt.setCell ⟨K, k, none⟩ (.int .i64 ((cn l k : Int) - 1))) x m (l2)) := ⟨P.out.keep b9 (fun z hz hm => KB.out.away (by rw [List.mem_singleton] at hm; exact hm ▸ hz)) nK⟩
                  have B2 : Kept (Below N w (wt.setCell ⟨K, k, none⟩ (.int .i64 ((cn l k : Int) - 1)))) := ⟨B.out.trans (b9.below (by have := P.out.root; omega) (by intro z hz; rw [List.mem_singleton] at hz; subst hz; exact hKN))⟩
                  clear b9 nK
                  have hcn : (cn l k : Int) ≤ 200 := by omega
                  have hcn0 : 1 ≤ (cn l k : Int) := by have := hcnk.out; omega
                  have hln1 : 1 ≤ (l.length : Int) := by have := hlenD.out; omega
                  clear AL P KB B kl cl hcn1
                  go_wp2
                  go_meet
                  case rel => exact ⟨l2, F3, by have := hlenD.out; go_num, ALD, P2, KB2, B2⟩
                · have hhas' : hasB nn l = false := by simpa using hhas
                  have hat : atP nn l = zeroP := by unfold atP; rw [if_neg hhas]
                  have hdel : delP nn l = l := by unfold delP; rw [if_neg hhas]
                  clear hhas
                  have hhas := hhas'
                  clear hhas'
                  have C := cat_any nn P.out
                  rw [hat, hhas] at C
                  unfold ParP at C
                  dsimp only [zeroP] at C
                  replace C := Kept.mk C
                  go_wp2_with fail
                  refine C.out.mono ?_
                  rintro e w5 ⟨A1, n1, c1, F2, rfl, -, -, rb, hp, fp⟩
                  replace OB := Kept.mk (OB.out.step fp); replace KB := Kept.mk (KB.out.step fp); replace B := Kept.mk (P.out.step B.out fp)
                  replace P := Kept.mk hp
                  obtain ⟨L, hL⟩ : ∃ z, w5.heap.size = z := ⟨_, rfl⟩
                  have bb : Below w5.heap.size w5 (w5.alloc (.cells #[.int .i64 0, .slice A1 n1 c1] 37)) := (Below.refl _ _).alloc (Nat.le_refl _) _
                  have YA := Kept.mk (Hd.new 37 #[.int .i64 0, .slice A1 n1 c1] hL.symm (fun z hz => (P.out.lt z hz).2))
                  replace OB := Kept.mk (OB.out.below bb); replace KB := Kept.mk (KB.out.below bb); replace B := Kept.mk (low_trans B.out bb (by have := P.out.root; omega)); replace P := Kept.mk (P.out.below bb)
                  have RA := Kept.mk (rb.below bb)
                  clear C hp fp rb bb o0 o1
                  go_upto_region 21 with (fail)
                  clear hL
                  generalize w5.alloc (.cells #[.int .i64 0, .slice A1 n1 c1] 37) = w6 at *
                  have o0 := OB.out.blk.cell 0; have o1 := OB.out.blk.cell 1
                  have C := ctake_any nn P.out
                  rw [hat, hhas, hdel] at C
                  unfold ParP at C
                  dsimp only [zeroP] at C
                  replace C := Kept.mk C
                  go_wp2_with fail
                  refine C.out.mono ?_
                  rintro e w7 ⟨A2, n2, c2, F3, rfl, -, -, rb, hp, fp⟩
                  replace OB := Kept.mk (OB.out.step fp); replace KB := Kept.mk (KB.out.step fp); replace B := Kept.mk (P.out.step B.out fp)
                  have nF := P.out.nb (by decide)
                  replace YA := Kept.mk (YA.out.step fp); replace RA := Kept.mk (RA.out.keep fp.1 nF)
                  clear nF
                  replace P := Kept.mk hp
                  obtain ⟨M, hM⟩ : ∃ z, w7.heap.size = z := ⟨_, rfl⟩
                  have bb : Below w7.heap.size w7 (w7.alloc (.cells #[.int .i64 0, .slice A2 n2 c2] 37)) := (Below.refl _ _).alloc (Nat.le_refl _) _
                  have YB := Kept.mk (Hd.new 37 #[.int .i64 0, .slice A2 n2 c2] hM.symm (fun z hz => (P.out.lt z hz).2))
                  replace OB := Kept.mk (OB.out.below bb); replace KB := Kept.mk (KB.out.below bb); replace B := Kept.mk (low_trans B.out bb (by have := P.out.root; omega)); replace P := Kept.mk (P.out.below bb)
                  replace YA := Kept.mk (YA.out.below bb); replace RA := Kept.mk (RA.out.below bb)
                  have RB := Kept.mk (rb.below bb)
                  clear C hp fp rb bb o0 o1
                  go_upto_region 25 with (fail)
                  clear hM
                  generalize w7.alloc (.cells #[.int .i64 0, .slice A2 n2 c2] 37) = w8 at *
                  have o0 := OB.out.blk.cell 0; have o1 := OB.out.blk.cell 1
                  have a0 := YA.out.blk.cell 0; have a1 := YA.out.blk.cell 1; have b0 := YB.out.blk.cell 0; have b1 := YB.out.blk.cell 1
                  have C := Kept.mk (rsame_yes 0 A1 A2 n1 c1 n2 c2 [] w8 RA.out.1 RB.out.1)
                  go_wp2_with fail
                  refine C.out.mono ?_
                  rintro e w9 ⟨rfl, bb⟩
                  replace OB := Kept.mk (OB.out.below bb); replace KB := Kept.mk (KB.out.below bb); replace B := Kept.mk (low_trans B.out bb (by have := P.out.root; omega)); replace P := Kept.mk (P.out.below bb)
                  replace YA := Kept.mk (YA.out.below bb); replace RA := Kept.mk (RA.out.below bb)
                  clear C bb YB RB a0 a1 b0 b1
                  clear hat hhas hdel YA RA o0 o1 OB
                  go_wp2
                  go_roundw
                  case rel => exact ⟨i + 1, l, F3, by omega, rfl, by go_num, AL, P, KB, B⟩
                  case measure => simp only [Go.RowKit.intOf]; omega
              · have h1f : (kd == 1) = false := by simpa using h1
                by_cases h2 : kd = 2
                · subst h2
                  clear h0 h0f h1 h1f
                  by_cases hhas : hasB nn l = true
                  · obtain ⟨k, hk256, hat⟩ := allK_at AL.out hhas
                    obtain ⟨l2, hdel⟩ : ∃ z, delP nn l = z := ⟨_, rfl⟩
                    have DA := del_all AL.out hhas hat
                    rw [hdel] at DA
                    have ALD := Kept.mk DA.1; have hcnk := Kept.mk DA.2.1; have htab := Kept.mk DA.2.2.1; have hlenD := Kept.mk DA.2.2.2
                    clear DA
                    have C := cat_any nn P.out
                    rw [hat, hhas] at C
                    unfold ParP at C
                    dsimp only [kp] at C
                    replace C := Kept.mk C
                    go_wp2_with fail
                    refine C.out.mono ?_
                    rintro e w5 ⟨A1, n1, c1, F2, rfl, -, -, rb, hp, fp⟩
                    replace OB := Kept.mk (OB.out.step fp); replace KB := Kept.mk (KB.out.step fp); replace B := Kept.mk (P.out.step B.out fp)
                    replace P := Kept.mk hp
                    obtain ⟨L, hL⟩ : ∃ z, w5.heap.size = z := ⟨_, rfl⟩
                    have bb : Below w5.heap.size w5 (w5.alloc (.cells #[.int .i64 (k : Int), .slice A1 n1 c1] 37)) := (Below.refl _ _).alloc (Nat.le_refl _) _
                    have YA := Kept.mk (Hd.new 37 #[.int .i64 (k : Int), .slice A1 n1 c1] hL.symm (fun z hz => (P.out.lt z hz).2))
                    replace OB := Kept.mk (OB.out.below bb); replace KB := Kept.mk (KB.out.below bb); replace B := Kept.mk (low_trans B.out bb (by have := P.out.root; omega)); replace P := Kept.mk (P.out.below bb)
                    have RA := Kept.mk (rb.below bb)
                    clear C hp fp rb bb o0 o1
                    go_upto_region 21 with (fail)
                    clear hL
                    generalize w5.alloc (.cells #[.int .i64 (k : Int), .slice A1 n1 c1] 37) = w6 at *
                    have o0 := OB.out.blk.cell 0; have o1 := OB.out.blk.cell 1
                    have C := cdrop_any nn P.out
                    rw [hhas, hdel] at C
                    unfold NumP at C
                    replace C := Kept.mk C
                    go_wp2_with fail
                    refine C.out.mono ?_
                    rintro e w7 ⟨F3, rfl, hp, fp⟩
                    replace OB := Kept.mk (OB.out.step fp); replace KB := Kept.mk (KB.out.step fp); replace B := Kept.mk (P.out.step B.out fp)
                    have nF := P.out.nb (by decide)
                    replace YA := Kept.mk (YA.out.step fp); replace RA := Kept.mk (RA.out.keep fp.1 nF)
                    clear nF
                    replace P := Kept.mk hp
                    clear C hp fp o0 o1
                    have o0 := OB.out.blk.cell 0; have o1 := OB.out.blk.cell 1
                    clear hat hhas hdel
                    have hand : bits .and .i64 (k : Int) 255 = k := by rw [and255]; omega
                    have hw8 : IntKind.u8.wrap (k : Int) = k := by rw [IntKind.wrap_u8]; omega
                    have hk255 : (k : Int) < 256 := by omega
                    have a0 := YA.out.blk.cell 0; have a1 := YA.out.blk.cell 1
                    obtain ⟨Z, hZ⟩ : ∃ z, w7.heap.size = z := ⟨_, rfl⟩
                    have bb : Below w7.heap.size w7 (w7.alloc (.cells #[.int .u8 (k : Int), .int .u8 7] 5)) := (Below.refl _ _).alloc (Nat.le_refl _) _
                    have Y := Kept.mk (Blk.new_at w7 5 #[.int .u8 (k : Int), .int .u8 7] Z hZ.symm)
                    have CB := bytes_same A1 (some ⟨Z, 0, none⟩) n1 2 c1 2 [(k : Int), 7] _ (RA.out.below bb).1 (Rd.blk (show Blk _ Z 5 (arr .u8 [(k : Int), 7]) from Y.out) (by intro y hy; simp at hy; omega) rfl)
                    replace CB := Kept.mk CB
                    replace OB := Kept.mk (OB.out.below bb); replace KB := Kept.mk (KB.out.below bb); replace B := Kept.mk (low_trans B.out bb (by have := P.out.root; omega)); replace P := Kept.mk (P.out.below bb)
                    clear bb Y RA YA o0 o1
                    have kl : k < (tab l).length := by rw [tab_len]; exact hk256
                    have kc : (w7.alloc (.cells #[.int .u8 (k : Int), .int .u8 7] 5)).cell? ⟨K, k, none⟩ = some (.int .i64 (cn l k)) := by rw [KB.out.blk.at_ _ kl, tab_at hk256]
                    clear kl
                    go_wp2_with fail
                    refine CB.out.mono ?_
                    rintro e wy ⟨rfl, rfl⟩
                    clear CB
                    have hcn1 : ((cn l k : Int) < 1) = False := eq_false (by have := hcnk.out; omega)
                    go_upto_region 31 with (fail)
                    clear kc a0 a1 hZ hw8 hand
                    generalize w7.alloc (.cells #[.int .u8 (k : Int), .int .u8 7] 5) = wt at *
                    have kl : k < (tab l).length := by rw [tab_len]; exact hk256
                    have kc : wt.cell? ⟨K, k, none⟩ = some (.int .i64 (cn l k)) := by rw [KB.out.blk.at_ _ kl, tab_at hk256]
                    have kf := KB.out.blk.frozen k
                    have cl := cn_le l k
                    have nK : Nb wt [K] := fun z hz => by rw [List.mem_singleton] at hz; subst hz; exact ⟨_, _, _, KB.out.blk, by decide⟩
                    have b9 : Bar [K] wt (wt.setCell ⟨K, k, none⟩ (.int .i64 ((cn l k : Int) - 1))) := (Bar.refl _ _).setCell (by simp) _
                    have KB2 : Kept (Hd (wt.setCell ⟨K, k, none⟩ (.int .i64 ((cn l k : Int) - 1))) F3 K 48 (arr .i64 (tab (l2)))) := ⟨⟨by
                      rw [htab.out, ← arr_set]
                      exact KB.out.blk.set_ _ _, KB.out.away⟩⟩
                    have P2 : Kept (Ps 52 F3 N (wt.setCell ⟨K, k, none⟩ (.int .i64 ((cn l k : Int) - 1))) x m (l2)) := ⟨P.out.keep b9 (fun z hz hm => KB.out.away (by rw [List.mem_singleton] at hm; exact hm ▸ hz)) nK⟩
                    have B2 : Kept (Below N w (wt.setCell ⟨K, k, none⟩ (.int .i64 ((cn l k : Int) - 1)))) := ⟨B.out.trans (b9.below (by have := P.out.root; omega) (by intro z hz; rw [List.mem_singleton] at hz; subst hz; exact hKN))⟩
                    clear b9 nK
                    have hcn : (cn l k : Int) ≤ 200 := by omega
                    have hcn0 : 1 ≤ (cn l k : Int) := by have := hcnk.out; omega
                    have hln1 : 1 ≤ (l.length : Int) := by have := hlenD.out; omega
                    clear AL P KB B kl cl hcn1
                    go_wp2
                    go_meet
                    case rel => exact ⟨l2, F3, by have := hlenD.out; go_num, ALD, P2, KB2, B2⟩
                  · have hhas' : hasB nn l = false := by simpa using hhas
                    have hat : atP nn l = zeroP := by unfold atP; rw [if_neg hhas]
                    have hdel : delP nn l = l := by unfold delP; rw [if_neg hhas]
                    clear hhas
                    have hhas := hhas'
                    clear hhas'
                    have C := cat_any nn P.out
                    rw [hat, hhas] at C
                    unfold ParP at C
                    dsimp only [zeroP] at C
                    replace C := Kept.mk C
                    go_wp2_with fail
                    refine C.out.mono ?_
                    rintro e w5 ⟨A1, n1, c1, F2, rfl, -, -, rb, hp, fp⟩
                    replace OB := Kept.mk (OB.out.step fp); replace KB := Kept.mk (KB.out.step fp); replace B := Kept.mk (P.out.step B.out fp)
                    replace P := Kept.mk hp
                    obtain ⟨L, hL⟩ : ∃ z, w5.heap.size = z := ⟨_, rfl⟩
                    have bb : Below w5.heap.size w5 (w5.alloc (.cells #[.int .i64 0, .slice A1 n1 c1] 37)) := (Below.refl _ _).alloc (Nat.le_refl _) _
                    have YA := Kept.mk (Hd.new 37 #[.int .i64 0, .slice A1 n1 c1] hL.symm (fun z hz => (P.out.lt z hz).2))
                    replace OB := Kept.mk (OB.out.below bb); replace KB := Kept.mk (KB.out.below bb); replace B := Kept.mk (low_trans B.out bb (by have := P.out.root; omega)); replace P := Kept.mk (P.out.below bb)
                    have RA := Kept.mk (rb.below bb)
                    clear C hp fp rb bb o0 o1
                    go_upto_region 21 with (fail)
                    clear hL
                    generalize w5.alloc (.cells #[.int .i64 0, .slice A1 n1 c1] 37) = w6 at *
                    have o0 := OB.out.blk.cell 0; have o1 := OB.out.blk.cell 1
                    have C := cdrop_any nn P.out
                    rw [hhas, hdel] at C
                    unfold NumP at C
                    replace C := Kept.mk C
                    go_wp2_with fail
                    refine C.out.mono ?_
                    rintro e w7 ⟨F3, rfl, hp, fp⟩
                    replace OB := Kept.mk (OB.out.step fp); replace KB := Kept.mk (KB.out.step fp); replace B := Kept.mk (P.out.step B.out fp)
                    have nF := P.out.nb (by decide)
                    replace YA := Kept.mk (YA.out.step fp); replace RA := Kept.mk (RA.out.keep fp.1 nF)
                    clear nF
                    replace P := Kept.mk hp
                    clear C hp fp o0 o1
                    have o0 := OB.out.blk.cell 0; have o1 := OB.out.blk.cell 1
                    clear hat hhas hdel YA RA o0 o1 OB
                    go_wp2
                    go_roundw
                    case rel => exact ⟨i + 1, l, F3, by omega, rfl, by go_num, AL, P, KB, B⟩
                    case measure => simp only [Go.RowKit.intOf]; omega
                · have h2f : (kd == 2) = false := by simpa using h2
                  by_cases h3 : kd = 3
                  · subst h3
                    clear h0 h0f h1 h1f h2 h2f
                    by_cases hhas : hasB nn l = true
                    · obtain ⟨k, hk256, hat⟩ := allK_at AL.out hhas
                      have CK := copy_kp (m := m) hhas hat
                      have C := cat_any nn P.out
                      rw [hat, hhas] at C
                      unfold ParP at C
                      dsimp only [kp] at C
                      replace C := Kept.mk C
                      go_wp2_with fail
                      refine C.out.mono ?_
                      rintro e w5 ⟨A1, n1, c1, F2, rfl, -, -, rb, hp, fp⟩
                      replace OB := Kept.mk (OB.out.step fp); replace KB := Kept.mk (KB.out.step fp); replace B := Kept.mk (P.out.step B.out fp)
                      replace P := Kept.mk hp
                      obtain ⟨L, hL⟩ : ∃ z, w5.heap.size = z := ⟨_, rfl⟩
                      have bb : Below w5.heap.size w5 (w5.alloc (.cells #[.int .i64 (k : Int), .slice A1 n1 c1] 37)) := (Below.refl _ _).alloc (Nat.le_refl _) _
                      have YA := Kept.mk (Hd.new 37 #[.int .i64 (k : Int), .slice A1 n1 c1] hL.symm (fun z hz => (P.out.lt z hz).2))
                      replace OB := Kept.mk (OB.out.below bb); replace KB := Kept.mk (KB.out.below bb); replace B := Kept.mk (low_trans B.out bb (by have := P.out.root; omega)); replace P := Kept.mk (P.out.below bb)
                      have RA := Kept.mk (rb.below bb)
                      clear C hp fp rb bb o0 o1
                      go_upto_region 35 with (fail)
                      clear hL
                      generalize w5.alloc (.cells #[.int .i64 (k : Int), .slice A1 n1 c1] 37) = w6 at *
                      have o0 := OB.out.blk.cell 0; have o1 := OB.out.blk.cell 1
                      have C := ccopy_any nn P.out
                      rw [CK.1, CK.2] at C
                      unfold NumP at C
                      clear CK hat hhas
                      by_cases hfull : (l.length : Int) = m
                      · rw [if_pos hfull, if_pos hfull] at C
                        replace C := Kept.mk C
                        go_wp2_with fail
                        refine C.out.mono ?_
                        rintro e w7 ⟨F3, rfl, hp, fp⟩
                        replace OB := Kept.mk (OB.out.step fp); replace KB := Kept.mk (KB.out.step fp); replace B := Kept.mk (P.out.step B.out fp)
                        replace P := Kept.mk hp
                        clear C hp fp o0 o1 YA RA hfull
                        go_wp2
                        go_meet
                        case rel => exact ⟨l, F3, rfl, AL, P, KB, B⟩
                      · rw [if_neg hfull, if_neg hfull] at C
                        replace C := Kept.mk C
                        go_wp2_with fail
                        refine C.out.mono ?_
                        rintro e w7 ⟨F3, rfl, hp, fp⟩
                        replace YA := Kept.mk (YA.out.step fp)
                        replace OB := Kept.mk (OB.out.step fp); replace KB := Kept.mk (KB.out.step fp); replace B := Kept.mk (P.out.step B.out fp); replace P := Kept.mk hp
                        clear C hp fp o0 o1 RA
                        have hand : bits .and .i64 (k : Int) 255 = k := by rw [and255]; omega
                        have a0 := YA.out.blk.cell 0; have a1 := YA.out.blk.cell 1
                        have kl : k < (tab l).length := by rw [tab_len]; exact hk256
                        have kc : w7.cell? ⟨K, k, none⟩ = some (.int .i64 (cn l k)) := by rw [KB.out.blk.at_ _ kl, tab_at hk256]
                        have kf := KB.out.blk.frozen k
                        have cl := cn_le l k
                        have nK : Nb w7 [K] := fun z hz => by rw [List.mem_singleton] at hz; subst hz; exact ⟨_, _, _, KB.out.blk, by decide⟩
                        have b9 : Bar [K] w7 (w7.setCell ⟨K, k, none⟩ (.int .i64 ((cn l k : Int) + 1))) := (Bar.refl _ _).setCell (by simp) _
                        have KB2 : Kept (Hd (w7.setCell ⟨K, k, none⟩ (.int .i64 ((cn l k : Int) + 1))) F3 K 48 (arr .i64 (tab (l ++ [kp k])))) := ⟨⟨by
                          rw [tab_push, ← arr_set]
                          exact KB.out.blk.set_ _ _, KB.out.away⟩⟩
                        have P2 : Kept (Ps 52 F3 N (w7.setCell ⟨K, k, none⟩ (.int .i64 ((cn l k : Int) + 1))) x m (l ++ [kp k])) := ⟨P.out.keep b9 (fun z hz hm => KB.out.away (by rw [List.mem_singleton] at hm; exact hm ▸ hz)) nK⟩
                        have B2 : Kept (Below N w (w7.setCell ⟨K, k, none⟩ (.int .i64 ((cn l k : Int) + 1)))) := ⟨B.out.trans (b9.below (by have := P.out.root; omega) (by intro z hz; rw [List.mem_singleton] at hz; subst hz; exact hKN))⟩
                        clear b9 nK
                        have hcn : (cn l k : Int) ≤ 200 := by omega
                        have AL2 := Kept.mk (allK_push AL.out hk256)
                        have hlen : Kept (((l ++ [kp k]).length : Int) = (l.length : Int) + 1) := ⟨by rw [List.length_append]; rfl⟩
                        have hk255 : (k : Int) < 256 := by omega
                        clear AL P KB B kl cl
                        go_wp2
                        go_meet
                        case rel => exact ⟨l ++ [kp k], F3, by rw [hlen.out], AL2, P2, KB2, B2⟩
                    · have hhas' : hasB nn l = false := by simpa using hhas
                      have hat : atP nn l = zeroP := by unfold atP; rw [if_neg hhas]
                      have CK : copyE m nn l = 8 ∧ copyP m nn l = l := by unfold copyE copyP; rw [if_neg hhas, if_neg hhas]; exact ⟨rfl, rfl⟩
                      clear hhas
                      have hhas := hhas'
                      clear hhas'
                      have C := cat_any nn P.out
                      rw [hat, hhas] at C
                      unfold ParP at C
                      dsimp only [zeroP] at C
                      replace C := Kept.mk C
                      go_wp2_with fail
                      refine C.out.mono ?_
                      rintro e w5 ⟨A1, n1, c1, F2, rfl, -, -, rb, hp, fp⟩
                      replace OB := Kept.mk (OB.out.step fp); replace KB := Kept.mk (KB.out.step fp); replace B := Kept.mk (P.out.step B.out fp)
                      replace P := Kept.mk hp
                      obtain ⟨L, hL⟩ : ∃ z, w5.heap.size = z := ⟨_, rfl⟩
                      have bb : Below w5.heap.size w5 (w5.alloc (.cells #[.int .i64 0, .slice A1 n1 c1] 37)) := (Below.refl _ _).alloc (Nat.le_refl _) _
                      have YA := Kept.mk (Hd.new 37 #[.int .i64 0, .slice A1 n1 c1] hL.symm (fun z hz => (P.out.lt z hz).2))
                      replace OB := Kept.mk (OB.out.below bb); replace KB := Kept.mk (KB.out.below bb); replace B := Kept.mk (low_trans B.out bb (by have := P.out.root; omega)); replace P := Kept.mk (P.out.below bb)
                      have RA := Kept.mk (rb.below bb)
                      clear C hp fp rb bb o0 o1
                      go_upto_region 35 with (fail)
                      clear hL
                      generalize w5.alloc (.cells #[.int .i64 0, .slice A1 n1 c1] 37) = w6 at *
                      have o0 := OB.out.blk.cell 0; have o1 := OB.out.blk.cell 1
                      have C := ccopy_any nn P.out
                      rw [CK.1, CK.2] at C
                      unfold NumP at C
                      replace C := Kept.mk C
                      go_wp2_with fail
                      refine C.out.mono ?_
                      rintro e w7 ⟨F3, rfl, hp, fp⟩
                      replace OB := Kept.mk (OB.out.step fp); replace KB := Kept.mk (KB.out.step fp); replace B := Kept.mk (P.out.step B.out fp)
                      replace P := Kept.mk hp
                      clear C hp fp o0 o1
                      have o0 := OB.out.blk.cell 0; have o1 := OB.out.blk.cell 1
                      clear CK hat hhas YA RA o0 o1
                      go_wp2
                      go_meet
                      case rel => exact ⟨l, F3, rfl, AL, P, KB, B⟩
                  · have h3f : (kd == 3) = false := by simpa using h3
                    clear h0 h1 h2 h3
                    go_wp2
                    go_meet
                    case rel => exact ⟨l, F, rfl, AL, P, KB, B⟩
          case rest =>
            clear P B OB KB AL o0 o1
            obtain ⟨l, F, rfl, AL, P, KB, B⟩ := hcut
            have C := Kept.mk (clen_any P.out)
            have hll : (m < (l.length : Int)) = False := eq_false (by have := P.out.len; omega)
            go_wp2_with fail
            refine C.out.mono ?_
            rintro e w9 ⟨rfl, rfl⟩
            clear C
            go_wp2
            go_roundw
            case rel => exact ⟨i + 1, l, F, by omega, rfl, by go_num, AL, P, KB, B⟩
            case measure => simp only [Go.RowKit.intOf]; omega
        · have hlt' : ((i : Int) < n) = False := eq_false (by omega)
          go_wp2_with fail
          refine (EN.out wr B.out).mono ?_
          rintro e wz ⟨rfl, bb⟩
          replace B := Kept.mk bb
          clear bb
          go_wp2
          go_ret
          exact ⟨rfl, hN.symm ▸ B.out⟩
  · have CN := fun wz => cnew_no m0 wz hm
    go_wp2_with fail
    refine (CN w1).mono ?_
    rintro e w3 ⟨rfl, rfl⟩
    clear CN hm
    go_wp2_with fail
    refine (EN.out w1 B.out).mono ?_
    rintro e wz ⟨rfl, bb⟩
    replace B := Kept.mk bb
    clear bb
    go_wp2
    go_ret
    exact ⟨rfl, hN.symm ▸ B.out⟩
end Go.Proofs.Ytjnpcfpalckkdaa.Post
