/-
  Parts laid together: ShaRHash FrameRef FrameText FramePut DiskIter Ints IntRows DiskCrash DiskFus.
-/
import Derived.Test.YtjlhnhkjgcbnnaaGreatPart8
import Derived.Deep.RegionHeld3
import Derived.Deep.AppendLies
import Derived.Test.YtjlhnhkjgcbnnaaGreatPart1
import Derived.Test.YtjlhnhkjgcbnnaaGreatPart2
import Derived.Lib.SmallJoins
import Derived.Test.YtjlhnhkjgcbnnaaGreatPart5
import Derived.Shelf.SlIterI.Sorted
import Derived.Shelf.SortM.Plain
import Derived.Shelf.SortM.SortNone
import Derived.Laws.Slices
import Derived.Maps.AppendAt
import Derived.StillTailTactics

/-
  The document's own sum of a text.
-/




namespace Go.Proofs.YtjlhnhkjgcbnnaaGreat.Sha
open Go.RowKit

def RHashPost (xs : List Int) (w : World) (e : Ending) (w' : World) : Prop := ∃ M cap, e = .returned (.slice (some ⟨M, 0, none⟩) 32 cap) ∧ w.heap.size ≤ M ∧ 32 ≤ cap ∧ cap ≤ maxLen ∧ Rd w' (some ⟨M, 0, none⟩) 32 (sha xs) ∧ Below w.heap.size w w'

theorem HI_is : HI = S0.toL := rfl
theorem own_slice {w : World} {base : Nat} {e : TypeId} {v : Value} {n : Nat} {xs : List Value} (h : w.ownsRow base e 1 v n xs) (hn : 0 < n) : ∃ g cap, v = .slice (some ⟨g, 0, none⟩) n cap ∧ base ≤ g ∧ n ≤ cap ∧ cap ≤ maxLen := by
  rcases h.2 with ⟨_, h0⟩ | ⟨g, cap, cur, hv, hg, _, h1, h2, _⟩
  · omega
  · exact ⟨g, cap, hv, hg, h1, h2⟩
theorem be8_succ (m k : Nat) (h : k < 8) : (be8 m).take (8 - k) = (be8 m).take (8 - (k + 1)) ++ [((m / 256 ^ k % 256 : Nat) : Int)] := by
  have l : (be8 m).length = 8 := by simp [be8]
  rw [show 8 - k = 8 - (k + 1) + 1 by omega, List.take_succ_eq_append_getElem (by omega)]
  congr 2
  simp only [be8, List.getElem_map, List.getElem_range]
  rw [show 7 - (8 - (k + 1)) = k by omega]
theorem rd_four (w : World) (x0 x1 x2 x3 : Int) (h0 : 0 ≤ x0 ∧ x0 ≤ 255) (h1 : 0 ≤ x1 ∧ x1 ≤ 255) (h2 : 0 ≤ x2 ∧ x2 ≤ 255) (h3 : 0 ≤ x3 ∧ x3 ≤ 255) : Rd (w.alloc (.cells #[.int .u8 x0, .int .u8 x1, .int .u8 x2, .int .u8 x3] 5)) (some ⟨w.heap.size, 0, none⟩) 4 [x0, x1, x2, x3] :=
  Rd.blk (Blk.new w 5 (arr .u8 [x0, x1, x2, x3])) (by intro y hy; simp only [List.mem_cons, List.not_mem_nil, or_false] at hy; rcases hy with rfl | rfl | rfl | rfl <;> assumption) rfl
theorem blocks_succ (s : S8) (m : Nat) (l : List Int) : blocks s (m + 1) l = mixed (blocks s m l) ((l.drop (64 * m)).take 64) := by
  rw [blocks_add]; rfl

set_option maxRecDepth 100000 in
set_option maxHeartbeats 2000000 in
theorem rhash_any (A : Option Addr) (n cap : Nat) (xs : List Int) (w : World) (hr : Rd w A n xs) (hn : n < 1073741824) :
    Calls Tryz.prog 72 #[.slice A n cap] w (RHashPost xs w) := by
  obtain ⟨N, hN⟩ : ∃ N, w.heap.size = N := ⟨_, rfl⟩
  obtain ⟨iu, hi, hz0, hz1, hz2⟩ := info_parts info_u8
  have HI := Kept.mk hi; have Z0 := Kept.mk hz0; have Z1 := Kept.mk hz1; have Z2 := Kept.mk hz2
  clear hi hz0 hz1 hz2
  have hlen : xs.length = n := hr.1
  have HR := Kept.mk hr
  have Hlen := Kept.mk hlen
  clear hr hlen
  go_enter Tryz.func72, Tryz.ntmps72
  go_wp2_with fail
  refine (rwords_any w).mono ?_
  rintro e w1 ⟨rfl, b1⟩
  go_wp2_with fail
  refine (rstarts_any w1).mono ?_
  rintro e w2 ⟨rfl, b2⟩
  obtain ⟨K, hK⟩ : ∃ K, w2.heap.size = K := ⟨_, rfl⟩
  have hNK : N ≤ K := by have := b1.size; have := b2.size; omega
  have b3 : Below N w w2 := hN ▸ b1.trans (b2.mono b1.size)
  clear b1 b2
  have B3 := Kept.mk b3
  clear b3
  go_wp2_with (first
    | ((with_reducible refine selS 76 (.tmp 3) (.tmp 11) ?_); refine wpList_store_row rfl 76 (.tmp 3) (.tmp 11) rfl K _ rfl rfl 76 _ ((Blk.new_at _ _ _ K hK.symm).alloc _) (by rw [arr_size, KI_len]; kernel_rfl) (by rw [arr_size, KI_len]; rfl) (all_oneCell_toArray (ints_one _ _)) ?_)
    | ((with_reducible refine selS 77 (.tmp 4) (.tmp 12) ?_); refine wpList_store_row rfl 77 (.tmp 4) (.tmp 12) rfl (K + 1) _ rfl rfl 77 _ (show Blk _ (K + 1) _ _ from (bar_setRow _ K _).block (K + 1) (by simp [hK]) (by simp) |>.trans (Blk.new_at _ _ _ (K + 1) (by simp [hK]))) (by rw [arr_size, HI_len]; kernel_rfl) (by rw [arr_size, HI_len]; rfl) (all_oneCell_toArray (ints_one _ _)) ?_))
  have Hall : Kept (∀ z1 z2 : Array Value, Blk ((((w2.alloc (.cells z1 76)).alloc (.cells z2 77)).setRow K (arr .u32 KI)).setRow (K + 1) (arr .u32 Sha.HI)) K 76 (arr .u32 KI) ∧
      Blk ((((w2.alloc (.cells z1 76)).alloc (.cells z2 77)).setRow K (arr .u32 KI)).setRow (K + 1) (arr .u32 Sha.HI)) (K + 1) 77 (arr .u32 S0.toL) ∧
      Below N w ((((w2.alloc (.cells z1 76)).alloc (.cells z2 77)).setRow K (arr .u32 KI)).setRow (K + 1) (arr .u32 Sha.HI)) ∧
      ((((w2.alloc (.cells z1 76)).alloc (.cells z2 77)).setRow K (arr .u32 KI)).setRow (K + 1) (arr .u32 Sha.HI)).heap.size = K + 2) := by
    refine ⟨fun z1 z2 => ⟨?_, ?_, ?_, ?_⟩⟩
    · exact (((Blk.new_at _ _ _ K hK.symm).alloc _).row _).bar (bar_setRow _ _ _) (by simp)
    · exact ((Blk.new_at _ _ _ (K + 1) (by simp [hK])).bar (bar_setRow _ K _) (by simp)).row _
    · exact below_setRow (below_setRow ((B3.out.alloc (by omega) _).alloc (by simp; omega) _) hNK _) (by omega) _
    · simp [World.setRow, hK]
  refine (copy_any A n cap xs _ (HR.out.keep (l := []) ((barOf (hN ▸ (Hall.out _ _).2.2.1) [])) (by simp)) (by omega)).mono ?_
  rintro e w4 ⟨v, rfl, ho, b4⟩
  have b5 := (Hall.out _ _).2.2.1.trans (b4.mono (by rw [(Hall.out _ _).2.2.2]; omega))
  have kK := (Hall.out _ _).1.below b4 (by rw [(Hall.out _ _).2.2.2]; omega)
  have kH := (Hall.out _ _).2.1.below b4 (by rw [(Hall.out _ _).2.2.2]; omega)
  rw [(Hall.out _ _).2.2.2] at ho
  have s4 := b4.size
  rw [(Hall.out _ _).2.2.2] at s4
  clear b4 Hall B3 hK
  have B5 := Kept.mk b5
  have KK := Kept.mk kK
  have KH := Kept.mk kH
  have own4 := Kept.mk ho
  clear b5 kK kH ho
  go_wp2_with ((with_reducible refine sel 16 ?_); refine wpList_append_rd rfl (.tmp 14) (.tmp 15) 38 rfl (K + 2) 5 Tryz.underlying38 info_u8 v n (ints .u8 xs) rfl (own4.out.alloc _) _ 1 1 [128] rfl (rd_one _ _ (by omega)) (by omega) (by simp; omega) ?_; intro v5 w5 own5 hg5; have b6 := Kept.mk (((Below.refl (K + 2) w4).alloc (by omega) _).trans (own_below (own4.out.alloc _) hg5 (by simp; omega))); clear hg5 own4)
  obtain ⟨g5, c5, rfl, hg5, hc5, hm5⟩ := own_slice own5.out (by omega)
  go_loopw [5] (fun v wr => ∃ (j g c : Nat), j ≤ padn n ∧ v = .slice (some ⟨g, 0, none⟩) (n + 1 + j) c ∧ c ≤ 9223372036854775807 ∧ Kept (wr.ownsRow (K + 2) 5 1 (.slice (some ⟨g, 0, none⟩) (n + 1 + j) c) (n + 1 + j) (ints .u8 (xs ++ 128 :: List.replicate j 0)) ∧ Below (K + 2) w4 wr)) (fun v _ => n + 1 + padn n - lenOf v)
  case atStart => exact ⟨0, g5, c5, Nat.zero_le _, rfl, hm5, ⟨by have := own5.out; rw [← ints_append] at this; exact this, b6.out⟩⟩
  case round =>
    clear own5 b6 hg5 hc5 hm5
    obtain ⟨j, g, c, hj, rfl, hc, hk⟩ := hrel
    obtain ⟨q, hq⟩ : ∃ q, n + 1 + j = q := ⟨_, rfl⟩
    have Hq := Kept.mk hq
    have hq0 : 1 ≤ q := by omega
    have hqs : q < 1073741824 + 128 := by have := padn_le n; omega
    have hp : q % 64 ≠ 56 → j + 1 ≤ padn n := by unfold padn at hj ⊢; omega
    have hp2 : q % 64 = 56 → j = padn n := by unfold padn at hj ⊢; omega
    rw [hq] at hk ⊢
    obtain ⟨own6, b6⟩ := hk.out
    have own6 := Kept.mk own6
    have B6 := Kept.mk b6
    have sr := b6.size
    have HP := Kept.mk hp
    have HP2 := Kept.mk hp2
    clear hk hq b6 hp hp2
    by_cases h56 : q % 64 = 56
    · have h56' : (q : Int) % 64 = 56 := by omega
      have hjP := HP2.out h56
      have H56 := Kept.mk h56
      clear HP HP2 h56
      go_wp2
      try rw [h56']
      clear h56'
      go_loopw [5, 7] (fun v i wr => ∃ (k g c : Nat), k ≤ 8 ∧ v = .slice (some ⟨g, 0, none⟩) (q + (8 - k)) c ∧ i = .int .i64 ((k : Int) - 1) ∧ c ≤ 9223372036854775807 ∧ Kept (wr.ownsRow (K + 2) 5 1 (.slice (some ⟨g, 0, none⟩) (q + (8 - k)) c) (q + (8 - k)) (ints .u8 ((xs ++ 128 :: List.replicate j 0) ++ (be8 (n * 8)).take (8 - k))) ∧ Below (K + 2) w4 wr)) (fun _ i _ => (Go.RowKit.intOf i + 1).toNat)
      case atStart => exact ⟨8, g, c, Nat.le_refl _, rfl, rfl, hc, ⟨by simpa using own6.out, B6.out⟩⟩
      case round =>
        clear own6 B6 hc sr
        obtain ⟨k, g, c, hk, rfl, rfl, hc, hr⟩ := hrel
        obtain ⟨own6, b6⟩ := hr.out
        have own6 := Kept.mk own6
        have B6 := Kept.mk b6
        have sr := b6.size
        clear hr b6
        cases k with
        | zero =>
          rw [show ((0 : Nat) : Int) - 1 = -1 by rfl]
          have hbe : (be8 (n * 8)).take 8 = be8 (n * 8) := List.take_of_length_le (by simp [be8])
          have hall : (xs ++ 128 :: List.replicate j 0) ++ (be8 (n * 8)).take 8 = xs ++ tail xs.length := by
            rw [hbe, List.append_assoc, Hlen.out, tail, hjP]; rfl
          rw [show 8 - 0 = 8 by rfl, hall] at own6
          obtain ⟨T, hT⟩ : ∃ T, q + 8 = T := ⟨_, rfl⟩
          have hTl : (xs ++ tail xs.length).length = T := by
            rw [List.length_append, tail_len, Hlen.out, ← hT, ← Hq.out, hjP]; omega
          have hT64 : T % 64 = 0 := by have := padded_len xs; omega
          have hTs : T < 1073741824 + 256 := by omega
          have hT0 : 0 < T := by omega
          rw [hT] at own6
          rw [show q + (8 - 0) = T from hT]
          have kh := KH.out.below B6.out (by omega)
          have KH2 := Kept.mk kh
          have HTl := Kept.mk hTl
          clear hbe hall hT hTl kh hjP H56 hj
          go_wp2
          obtain ⟨all, hal⟩ : ∃ all, xs ++ tail xs.length = all := ⟨_, rfl⟩
          have hby : Bytes all := by rw [← hal]; exact HR.out.2.1.append (tail_bytes _)
          rw [hal] at own6 HTl
          have Hal := Kept.mk hal
          have HBY := Kept.mk hby
          have hcT := own_slice own6.out hT0
          have hcT2 : T ≤ c := by obtain ⟨_, _, e, _, h, _⟩ := hcT; injection e with _ _ e; omega
          clear hal hby hcT
          go_loopw [8] (fun i wr => ∃ m : Nat, 64 * m ≤ T ∧ i = .int .i64 ((64 * m : Nat) : Int) ∧ Kept (Blk wr (K + 1) 77 (arr .u32 (blocks S0 m all).toL)) ∧ Kept (wr.ownsRow (K + 2) 5 1 (.slice (some ⟨g, 0, none⟩) T c) T (ints .u8 all)) ∧ Below (K + 1) w4 wr) (fun i _ => T - (Go.RowKit.intOf i).toNat)
          case atStart => exact ⟨0, by omega, rfl, KH2, own6, B6.out.mono (by omega)⟩
          case round =>
            clear KH2 own6 B6 sr
            obtain ⟨m, hm, rfl, kh, own6, b6⟩ := hrel
            have sr := b6.size
            obtain ⟨y, hy⟩ : ∃ y, 64 * m = y := ⟨_, rfl⟩
            have Hy := Kept.mk hy
            rw [hy] at hm ⊢
            by_cases hlt : y < T
            · have hyT : y + 64 ≤ T := by omega
              have hl64 : (all.drop y).length = T - y := by rw [List.length_drop, HTl.out]
              have cb := block_any (K + 1) K g y (c - y) (blocks S0 m all) (blocks_ok S0_ok _ _) ((all.drop y).take 64) wr.drew ((HBY.out.drop _).take _) (by omega) kh.out.drew ((KK.out.below b6 (by omega)).drew)
                (fun i hi => by
                  rw [at_take hi, at_drop]
                  exact own_cell own6.out (y + i) (by omega))
              rw [← hy, ← blocks_succ, hy] at cb
              have Cb := Kept.mk cb
              have B6 := Kept.mk b6
              have x1 : IntKind.i64.wrap ((y : Int) + 64) = (y : Int) + 64 := by rw [IntKind.wrap_i64]; omega
              have x2 : (y : Int) ≤ (y : Int) + 64 := by omega
              have x3 : (y : Int) + 64 ≤ (c : Int) := by omega
              have x4 : ((y : Int) + 64).toNat = y + 64 := by omega
              have x5 : y + 64 - y = 64 := by omega
              have x6 : ¬ c = y := by omega
              clear cb b6 hy hl64
              go_wp2
              refine wp_region_still_tail 7 (by kernel_rfl) (by kernel_rfl) ?_
              simp only [List.take_succ_cons, List.take_zero, List.drop_succ_cons, List.drop_zero]
              repeat still_step
              refine wpStill_nil ?_
              change wpList _ _ _ _ _ wr.drew
              clear x1 x2 x3 x4 x5 x6
              go_wp2_with fail
              refine Cb.out.mono ?_
              rintro e w5 ⟨rfl, k5, b5⟩
              have K5 := Kept.mk k5
              have O5 := Kept.mk (own_bar own6.out.drew b5 (by simp))
              have B7 := Kept.mk (B6.out.trans ((Below.refl (K + 1) wr).drew.trans (b5.below (B := K + 1) (by show K + 1 ≤ wr.heap.size; omega) (by simp))))
              clear k5 b5 Cb
              go_wp2
              go_roundw
              case rel => exact ⟨m + 1, by have := Hy.out; omega, by have := Hy.out; go_num, K5, O5, B7.out⟩
              case measure => simp [Go.RowKit.intOf]; omega
            · have hst : blocks S0 m all = st all := by rw [st, HTl.out, show T / 64 = m by omega]
              rw [hst] at kh
              have B6 := Kept.mk b6
              clear hst hy b6
              obtain ⟨s, hs⟩ : ∃ s, st all = s := ⟨_, rfl⟩
              have hok : s.ok := by rw [← hs]; exact st_ok _
              rw [hs] at kh
              have HS := Kept.mk hs
              have HOK := Kept.mk hok
              clear hs hok own6
              go_wp2
              go_loopw [9, 10] (fun v i w3 => ∃ k : Nat, k ≤ 8 ∧ i = .int .i64 k ∧ Kept (w3.ownsRow (K + 2) 5 1 v (4 * k) (ints .u8 (outK s k))) ∧ Kept (Blk w3 (K + 1) 77 (arr .u32 s.toL)) ∧ Below (K + 1) w4 w3) (fun _ i _ => 8 - (Go.RowKit.intOf i).toNat)
              case atStart => exact ⟨0, by omega, rfl, ⟨World.ownsRow_nil _ _ _ _⟩, kh, B6.out⟩
              case round =>
                clear kh B6 sr
                obtain ⟨k, hk, rfl, ho, kh, b6⟩ := hrel
                have sr := b6.size
                have B6 := Kept.mk b6
                clear b6
                by_cases hlt8 : k < 8
                · have k8 : (k : Int) < 8 := by omega
                  have c0 := kh.out.at_ k hlt8
                  have hx := S8.at32 HOK.out k
                  have hsucc := outK_succ s k
                  generalize at_ s.toL k = x at *
                  obtain ⟨hx0, hx1⟩ := hx
                  have Hsucc := Kept.mk hsucc
                  have u0 : IntKind.u8.wrap (x / 16777216) = x / 16777216 % 256 := by rw [IntKind.wrap_u8]
                  have u1 : IntKind.u8.wrap (x / 65536) = x / 65536 % 256 := by rw [IntKind.wrap_u8]
                  have u2 : IntKind.u8.wrap (x / 256) = x / 256 % 256 := by rw [IntKind.wrap_u8]
                  have u3 : IntKind.u8.wrap x = x % 256 := by rw [IntKind.wrap_u8]
                  clear hsucc
                  have ag : u9.ownBlock ≠ some (K + 1) := fun h => by have := (ho.out.lt _ h).1; omega
                  have HIo := HI.out; have Z0o := Z0.out; have Z1o := Z1.out; have Z2o := Z2.out
                  go_wp2_with fail
                  go_region_held3 (fun w' => w'.cell? ⟨K + 1, k, none⟩ = some (.int .u32 x))
                    (first
                      | go_keep
                      | (rw [hgrow.cell_far _ (by simp; omega) (Ne.symm ag)]; assumption))
                    ((refine step_append_lies _ (by rfl) _ _ _ (by rfl) (K + 2) 5 iu _ 1 1 Tryz.underlying38 HIo Z0o Z1o Z2o rfl (by omega) u9 (4 * k) (ints .u8 (outK s k)) (by rfl) ((ho.out.alloc _).drew)
                        ⟨wr.heap.size, 0, none⟩ 4 4 [.int .u8 (x / 16777216 % 256), .int .u8 (x / 65536 % 256), .int .u8 (x / 256 % 256), .int .u8 (x % 256)] (by rfl) (by rfl) (World.news_of_block (cs := #[.int .u8 (x / 16777216 % 256), .int .u8 (x / 65536 % 256), .int .u8 (x / 256 % 256), .int .u8 (x % 256)]) (t := 5) (fr := (0, 0)) (heap_alloc_new wr _)) (by simp [Value.oneCell'])
                        (by omega) (by unfold maxLen; omega) (by omega) (by simp; omega) (wr.heap.size + 1) (by simp) ?_; intro gg cg w1 hown1 hgrow hat hlt1))
                  go_wp2
                  go_roundw
                  case rel =>
                    refine ⟨k + 1, by omega, by go_num, ⟨?_⟩, ⟨(kh.out.alloc _).drew.grown hgrow (Ne.symm ag)⟩, ?_⟩
                    · rw [Hsucc.out, ints_append]; exact hown1
                    · exact B6.out.trans (((Below.refl (K + 1) wr).alloc (by omega) _).drew.trans ((own_below (ho.out.alloc _).drew hgrow (by simp; omega)).mono (by omega)))
                  case measure => simp [Go.RowKit.intOf]; omega
                · have hk8 : k = 8 := by omega
                  subst hk8
                  obtain ⟨M, cap', rfl, hM, hc32, hmax⟩ := own_slice ho.out (by omega)
                  go_wp2
                  go_ret
                  have hsha : sha xs = outK s 8 := by rw [outK_8, ← HS.out, ← Hal.out]; rfl
                  refine ⟨M, cap', rfl, by have := B5.out.size; omega, hc32, hmax, ⟨sha_len _, sha_bytes _, Or.inr ⟨M, 0, rfl, ?_⟩⟩, hN ▸ (B5.out.trans (B6.out.mono (by omega)))⟩
                  intro i hi
                  rw [hsha, Nat.zero_add]
                  exact own_cell ho.out i hi
        | succ k =>
          rw [show ((k + 1 : Nat) : Int) - 1 = (k : Int) by omega]
          have e8 := be8_succ (n * 8) k (by omega)
          rw [show q + (8 - (k + 1)) = q + (7 - k) by omega, show 8 - (k + 1) = 7 - k by omega] at own6
          rw [show q + (8 - (k + 1)) = q + (7 - k) by omega]
          rw [show 8 - (k + 1) = 7 - k by omega] at e8
          have E8 := Kept.mk e8
          obtain ⟨p, hp⟩ : ∃ p, q + (7 - k) = p := ⟨_, rfl⟩
          have hp1 : p < 1073741824 + 256 := by omega
          have hp0 : 0 < p := by omega
          have HPp := Kept.mk hp
          rw [hp] at own6 ⊢
          clear e8 hp
          have hk8 : k = 0 ∨ k = 1 ∨ k = 2 ∨ k = 3 ∨ k = 4 ∨ k = 5 ∨ k = 6 ∨ k = 7 := by omega
          rcases hk8 with rfl | rfl | rfl | rfl | rfl | rfl | rfl | rfl
          · go_wp2_with ((with_reducible refine sel 40 ?_); refine wpList_append_rd rfl (.tmp 32) (.tmp 39) 38 rfl (K + 2) 5 Tryz.underlying38 info_u8 (.slice (some ⟨g, 0, none⟩) p c) p _ rfl (own6.out.alloc _) _ 1 1 [(n : Int) * 8 % 256] rfl (rd_one _ _ (by omega)) (by omega) (by simp; omega) ?_; intro v7 w7 own7 hg7; have b7 := Kept.mk (B6.out.trans (((Below.refl (K + 2) wr).alloc (by omega) _).trans (own_below (own6.out.alloc _) hg7 (by simp; omega)))); clear hg7)
            obtain ⟨g7, c7, rfl, hg7, hc7, hm7⟩ := own_slice own7.out (by omega)
            go_roundw
            case rel =>
              refine ⟨0, g7, c7, by omega, by rw [← HPp.out], by rfl, hm7, ⟨?_, b7.out⟩⟩
              have := own7.out
              rw [← ints_append, List.append_assoc] at this
              rw [E8.out, show q + (8 - 0) = p + 1 by rw [← HPp.out]]
              rw [show (((n * 8 / 256 ^ 0 % 256 : Nat) : Nat) : Int) = (n : Int) * 8 % 256 by rw [show (256 : Nat) ^ 0 = 1 from rfl]; omega]
              exact this
            case measure => simp [Go.RowKit.intOf]
          · go_wp2_with ((with_reducible refine sel 40 ?_); refine wpList_append_rd rfl (.tmp 32) (.tmp 39) 38 rfl (K + 2) 5 Tryz.underlying38 info_u8 (.slice (some ⟨g, 0, none⟩) p c) p _ rfl (own6.out.alloc _) _ 1 1 [(n : Int) * 8 / 256 % 256] rfl (rd_one _ _ (by omega)) (by omega) (by simp; omega) ?_; intro v7 w7 own7 hg7; have b7 := Kept.mk (B6.out.trans (((Below.refl (K + 2) wr).alloc (by omega) _).trans (own_below (own6.out.alloc _) hg7 (by simp; omega)))); clear hg7)
            obtain ⟨g7, c7, rfl, hg7, hc7, hm7⟩ := own_slice own7.out (by omega)
            go_roundw
            case rel =>
              refine ⟨1, g7, c7, by omega, by rw [← HPp.out], by rfl, hm7, ⟨?_, b7.out⟩⟩
              have := own7.out
              rw [← ints_append, List.append_assoc] at this
              rw [E8.out, show q + (8 - 1) = p + 1 by rw [← HPp.out]]
              rw [show (((n * 8 / 256 ^ 1 % 256 : Nat) : Nat) : Int) = (n : Int) * 8 / 256 % 256 by rw [show (256 : Nat) ^ 1 = 256 from rfl]; omega]
              exact this
            case measure => simp [Go.RowKit.intOf]
          · go_wp2_with ((with_reducible refine sel 40 ?_); refine wpList_append_rd rfl (.tmp 32) (.tmp 39) 38 rfl (K + 2) 5 Tryz.underlying38 info_u8 (.slice (some ⟨g, 0, none⟩) p c) p _ rfl (own6.out.alloc _) _ 1 1 [(n : Int) * 8 / 65536 % 256] rfl (rd_one _ _ (by omega)) (by omega) (by simp; omega) ?_; intro v7 w7 own7 hg7; have b7 := Kept.mk (B6.out.trans (((Below.refl (K + 2) wr).alloc (by omega) _).trans (own_below (own6.out.alloc _) hg7 (by simp; omega)))); clear hg7)
            obtain ⟨g7, c7, rfl, hg7, hc7, hm7⟩ := own_slice own7.out (by omega)
            go_roundw
            case rel =>
              refine ⟨2, g7, c7, by omega, by rw [← HPp.out], by rfl, hm7, ⟨?_, b7.out⟩⟩
              have := own7.out
              rw [← ints_append, List.append_assoc] at this
              rw [E8.out, show q + (8 - 2) = p + 1 by rw [← HPp.out]]
              rw [show (((n * 8 / 256 ^ 2 % 256 : Nat) : Nat) : Int) = (n : Int) * 8 / 65536 % 256 by rw [show (256 : Nat) ^ 2 = 65536 from rfl]; omega]
              exact this
            case measure => simp [Go.RowKit.intOf]
          · go_wp2_with ((with_reducible refine sel 40 ?_); refine wpList_append_rd rfl (.tmp 32) (.tmp 39) 38 rfl (K + 2) 5 Tryz.underlying38 info_u8 (.slice (some ⟨g, 0, none⟩) p c) p _ rfl (own6.out.alloc _) _ 1 1 [(n : Int) * 8 / 16777216 % 256] rfl (rd_one _ _ (by omega)) (by omega) (by simp; omega) ?_; intro v7 w7 own7 hg7; have b7 := Kept.mk (B6.out.trans (((Below.refl (K + 2) wr).alloc (by omega) _).trans (own_below (own6.out.alloc _) hg7 (by simp; omega)))); clear hg7)
            obtain ⟨g7, c7, rfl, hg7, hc7, hm7⟩ := own_slice own7.out (by omega)
            go_roundw
            case rel =>
              refine ⟨3, g7, c7, by omega, by rw [← HPp.out], by rfl, hm7, ⟨?_, b7.out⟩⟩
              have := own7.out
              rw [← ints_append, List.append_assoc] at this
              rw [E8.out, show q + (8 - 3) = p + 1 by rw [← HPp.out]]
              rw [show (((n * 8 / 256 ^ 3 % 256 : Nat) : Nat) : Int) = (n : Int) * 8 / 16777216 % 256 by rw [show (256 : Nat) ^ 3 = 16777216 from rfl]; omega]
              exact this
            case measure => simp [Go.RowKit.intOf]
          · go_wp2_with ((with_reducible refine sel 40 ?_); refine wpList_append_rd rfl (.tmp 32) (.tmp 39) 38 rfl (K + 2) 5 Tryz.underlying38 info_u8 (.slice (some ⟨g, 0, none⟩) p c) p _ rfl (own6.out.alloc _) _ 1 1 [(n : Int) * 8 / 4294967296] rfl (rd_one _ _ (by omega)) (by omega) (by simp; omega) ?_; intro v7 w7 own7 hg7; have b7 := Kept.mk (B6.out.trans (((Below.refl (K + 2) wr).alloc (by omega) _).trans (own_below (own6.out.alloc _) hg7 (by simp; omega)))); clear hg7)
            obtain ⟨g7, c7, rfl, hg7, hc7, hm7⟩ := own_slice own7.out (by omega)
            go_roundw
            case rel =>
              refine ⟨4, g7, c7, by omega, by rw [← HPp.out], by rfl, hm7, ⟨?_, b7.out⟩⟩
              have := own7.out
              rw [← ints_append, List.append_assoc] at this
              rw [E8.out, show q + (8 - 4) = p + 1 by rw [← HPp.out]]
              rw [show (((n * 8 / 256 ^ 4 % 256 : Nat) : Nat) : Int) = (n : Int) * 8 / 4294967296 by rw [show (256 : Nat) ^ 4 = 4294967296 from rfl]; omega]
              exact this
            case measure => simp [Go.RowKit.intOf]
          · go_wp2_with ((with_reducible refine sel 40 ?_); refine wpList_append_rd rfl (.tmp 32) (.tmp 39) 38 rfl (K + 2) 5 Tryz.underlying38 info_u8 (.slice (some ⟨g, 0, none⟩) p c) p _ rfl (own6.out.alloc _) _ 1 1 [(n : Int) * 8 / 1099511627776] rfl (rd_one _ _ (by omega)) (by omega) (by simp; omega) ?_; intro v7 w7 own7 hg7; have b7 := Kept.mk (B6.out.trans (((Below.refl (K + 2) wr).alloc (by omega) _).trans (own_below (own6.out.alloc _) hg7 (by simp; omega)))); clear hg7)
            obtain ⟨g7, c7, rfl, hg7, hc7, hm7⟩ := own_slice own7.out (by omega)
            go_roundw
            case rel =>
              refine ⟨5, g7, c7, by omega, by rw [← HPp.out], by rfl, hm7, ⟨?_, b7.out⟩⟩
              have := own7.out
              rw [← ints_append, List.append_assoc] at this
              rw [E8.out, show q + (8 - 5) = p + 1 by rw [← HPp.out]]
              rw [show (((n * 8 / 256 ^ 5 % 256 : Nat) : Nat) : Int) = (n : Int) * 8 / 1099511627776 by rw [show (256 : Nat) ^ 5 = 1099511627776 from rfl]; omega]
              exact this
            case measure => simp [Go.RowKit.intOf]
          · go_wp2_with ((with_reducible refine sel 40 ?_); refine wpList_append_rd rfl (.tmp 32) (.tmp 39) 38 rfl (K + 2) 5 Tryz.underlying38 info_u8 (.slice (some ⟨g, 0, none⟩) p c) p _ rfl (own6.out.alloc _) _ 1 1 [(n : Int) * 8 / 281474976710656] rfl (rd_one _ _ (by omega)) (by omega) (by simp; omega) ?_; intro v7 w7 own7 hg7; have b7 := Kept.mk (B6.out.trans (((Below.refl (K + 2) wr).alloc (by omega) _).trans (own_below (own6.out.alloc _) hg7 (by simp; omega)))); clear hg7)
            obtain ⟨g7, c7, rfl, hg7, hc7, hm7⟩ := own_slice own7.out (by omega)
            go_roundw
            case rel =>
              refine ⟨6, g7, c7, by omega, by rw [← HPp.out], by rfl, hm7, ⟨?_, b7.out⟩⟩
              have := own7.out
              rw [← ints_append, List.append_assoc] at this
              rw [E8.out, show q + (8 - 6) = p + 1 by rw [← HPp.out]]
              rw [show (((n * 8 / 256 ^ 6 % 256 : Nat) : Nat) : Int) = (n : Int) * 8 / 281474976710656 by rw [show (256 : Nat) ^ 6 = 281474976710656 from rfl]; omega]
              exact this
            case measure => simp [Go.RowKit.intOf]
          · go_wp2_with ((with_reducible refine sel 40 ?_); refine wpList_append_rd rfl (.tmp 32) (.tmp 39) 38 rfl (K + 2) 5 Tryz.underlying38 info_u8 (.slice (some ⟨g, 0, none⟩) p c) p _ rfl (own6.out.alloc _) _ 1 1 [(n : Int) * 8 / 72057594037927936] rfl (rd_one _ _ (by omega)) (by omega) (by simp; omega) ?_; intro v7 w7 own7 hg7; have b7 := Kept.mk (B6.out.trans (((Below.refl (K + 2) wr).alloc (by omega) _).trans (own_below (own6.out.alloc _) hg7 (by simp; omega)))); clear hg7)
            obtain ⟨g7, c7, rfl, hg7, hc7, hm7⟩ := own_slice own7.out (by omega)
            go_roundw
            case rel =>
              refine ⟨7, g7, c7, by omega, by rw [← HPp.out], by rfl, hm7, ⟨?_, b7.out⟩⟩
              have := own7.out
              rw [← ints_append, List.append_assoc] at this
              rw [E8.out, show q + (8 - 7) = p + 1 by rw [← HPp.out]]
              rw [show (((n * 8 / 256 ^ 7 % 256 : Nat) : Nat) : Int) = (n : Int) * 8 / 72057594037927936 by rw [show (256 : Nat) ^ 7 = 72057594037927936 from rfl]; omega]
              exact this
            case measure => simp [Go.RowKit.intOf]
    · have h56' : ¬ ((q : Int) % 64 = 56) := by omega
      go_wp2_with ((with_reducible refine sel 23 ?_); refine wpList_append_rd rfl (.tmp 21) (.tmp 22) 38 rfl (K + 2) 5 Tryz.underlying38 info_u8 (.slice (some ⟨g, 0, none⟩) q c) q _ rfl (own6.out.alloc _) _ 1 1 [0] rfl (rd_one _ _ (by omega)) (by omega) (by simp; omega) ?_; intro v7 w7 own7 hg7; have b7 := Kept.mk (B6.out.trans (((Below.refl (K + 2) wr).alloc (by omega) _).trans (own_below (own6.out.alloc _) hg7 (by simp; omega)))); clear hg7)
      obtain ⟨g7, c7, rfl, hg7, hc7, hm7⟩ := own_slice own7.out (by omega)
      go_roundw
      case rel =>
        refine ⟨j + 1, g7, c7, HP.out h56, by rw [← Hq.out]; rfl, hm7, ⟨?_, b7.out⟩⟩
        have := own7.out
        rw [← ints_append, List.append_assoc, List.cons_append, ← List.replicate_succ'] at this
        rw [show n + 1 + (j + 1) = q + 1 by rw [← Hq.out]; omega]
        exact this
      case measure => simp [lenOf]; have := Hq.out; have := HP.out h56; omega
end Go.Proofs.YtjlhnhkjgcbnnaaGreat.Sha

/-
  The document's own frame: Sectors, Text.
-/




namespace Go.Proofs.YtjlhnhkjgcbnnaaGreat.Frame
open Go.RowKit Go.Proofs.YtjlhnhkjgcbnnaaGreat.Sha Go.Proofs.YtjlhnhkjgcbnnaaGreat.Wire

theorem rsectors_any (n : Int) (w : World) : Calls Tryz.prog 58 #[.int .i64 n] w fun e w' => e = .returned (.int .i64 (sectorsF n)) ∧ w = w' := by
  by_cases h1 : n < 0
  · rw [show sectorsF n = 0 by unfold sectorsF; rw [if_pos (.inl h1)]]
    go_enter Tryz.func58, Tryz.ntmps58
    go_wp2
    go_ret
    exact ⟨rfl, rfl⟩
  · by_cases h2 : 60000 < n
    · rw [show sectorsF n = 0 by unfold sectorsF; rw [if_pos (.inr h2)]]
      go_enter Tryz.func58, Tryz.ntmps58
      go_wp2
      go_ret
      exact ⟨rfl, rfl⟩
    · have e : sectorsF n = (24 + n + 62) / 63 := by unfold sectorsF; rw [if_neg (by omega)]
      have hw1 : wrap64 (24 + n) = 24 + n := by unfold wrap64; omega
      have hw2 : wrap64 (24 + n + 62) = 24 + n + 62 := by unfold wrap64; omega
      have hq : Int.tdiv (24 + n + 62) 63 = (24 + n + 62) / 63 := Int.tdiv_eq_ediv_of_nonneg (by omega)
      have HE := Kept.mk e
      clear e
      go_enter Tryz.func58, Tryz.ntmps58
      go_wp2
      go_ret
      exact ⟨by rw [HE.out, ← hq]; rfl, rfl⟩
end Go.Proofs.YtjlhnhkjgcbnnaaGreat.Frame

/-
  The document's own frame: its text.
-/





namespace Go.Proofs.YtjlhnhkjgcbnnaaGreat.Frame
open Go.RowKit Go.Proofs.YtjlhnhkjgcbnnaaGreat.Sha Go.Proofs.YtjlhnhkjgcbnnaaGreat.Wire

/-- an Enc at block M while a text is made; the frame lies boxed in block N -/
def Tx (w0 : World) (N M : Nat) (cs : Array Value) (A : Option Addr) (n : Nat) (body : List Int) (st : St) (w : World) : Prop :=
  ∃ F, En 130 w F M st ∧ Blk w N 56 cs ∧ Rd w A n body ∧ Below w0.heap.size w0 w ∧ ∀ k ∈ F, w0.heap.size + 1 ≤ k
theorem Tx.blk {w0 : World} {N M : Nat} {cs : Array Value} {A : Option Addr} {n : Nat} {body : List Int} {st : St} {w : World} (h : Tx w0 N M cs A n body st w) : Blk w N 56 cs := h.choose_spec.2.1
theorem Tx.rd {w0 : World} {N M : Nat} {cs : Array Value} {A : Option Addr} {n : Nat} {body : List Int} {st : St} {w : World} (h : Tx w0 N M cs A n body st w) : Rd w A n body := h.choose_spec.2.2.1
theorem Tx.bel {w0 : World} {N M : Nat} {cs : Array Value} {A : Option Addr} {n : Nat} {body : List Int} {st : St} {w : World} (h : Tx w0 N M cs A n body st w) : Below w0.heap.size w0 w := h.choose_spec.2.2.2.1
theorem Tx.below {w0 : World} {N M : Nat} {cs : Array Value} {A : Option Addr} {n : Nat} {body : List Int} {st : St} {w w' : World} (h : Tx w0 N M cs A n body st w) (b : Below w.heap.size w w') : Tx w0 N M cs A n body st w' := by
  obtain ⟨F, h1, h2, h3, h4, h5⟩ := h
  exact ⟨F, h1.below b, h2.bar (barOf b []) (by simp), h3.below b, h4.trans (b.mono (by have := h4.size; omega)), h5⟩
theorem Tx.step {w0 : World} {N M : Nat} {cs : Array Value} {A : Option Addr} {n : Nat} {body : List Int} {st' : St} {w w' : World} {F F' : List Nat} (hN : N = w0.heap.size) (hA : Rd w0 A n body) (h2 : Blk w N 56 cs) (h4 : Below w0.heap.size w0 w) (h5 : ∀ k ∈ F, w0.heap.size + 1 ≤ k)
    (h1 : En 130 w' F' M st') (hf : Fp F F' w w') : Tx w0 N M cs A n body st' w' := by
  have hs : w0.heap.size + 1 ≤ w.heap.size := by have := h2.lt; omega
  have b : Below w0.heap.size w0 w' := h4.trans (hf.below (fun k hk => by have := h5 k hk; omega) (by omega))
  exact ⟨F', h1, h2.bar hf.1 (fun hk => by have := h5 _ hk; omega), hA.below b, b, hf.least h5 hs⟩
theorem txt_num {w0 : World} {N M : Nat} {cs : Array Value} {A : Option Addr} {n : Nat} {body : List Int} {st : St} {w : World} (hN : N = w0.heap.size) (hA : Rd w0 A n body) (h : Tx w0 N M cs A n body st w) (x s : Int) (hl : st.2.length ≤ 2147483648) :
    Calls Tryz.prog 71 #[.pointer (some ⟨M, 0, none⟩), .int .i64 x, .int .i64 s] w fun e w' => e = .returned (.tuple #[]) ∧ Tx w0 N M cs A n body (rencNum st x s) w' := by
  obtain ⟨F, h1, h2, h3, h4, h5⟩ := h
  refine (rnum_any w F M x s st h1 hl).mono ?_
  rintro e w' ⟨rfl, F', h6, h7⟩
  exact ⟨rfl, Tx.step hN hA h2 h4 h5 h6 h7⟩
theorem txt_raw {w0 : World} {N M : Nat} {cs : Array Value} {A : Option Addr} {n : Nat} {body : List Int} {st : St} {w : World} (hN : N = w0.heap.size) (hA : Rd w0 A n body) (h : Tx w0 N M cs A n body st w) (B : Option Addr) (m c : Nat) (b : List Int) (hr : Rd w B m b) (hl : st.2.length + m ≤ 4294967296) :
    Calls Tryz.prog 70 #[.pointer (some ⟨M, 0, none⟩), .slice B m c] w fun e w' => e = .returned (.tuple #[]) ∧ Tx w0 N M cs A n body (st.1, st.2 ++ b) w' := by
  obtain ⟨F, h1, h2, h3, h4, h5⟩ := h
  refine (rraw_any w F M B m c b st h1 hr hl).mono ?_
  rintro e w' ⟨rfl, F', h6, h7⟩
  exact ⟨rfl, Tx.step hN hA h2 h4 h5 h6 h7⟩
theorem rencNum_ok {n s : Int} {xs : List Int} (h : fits n s = true) : rencNum (0, xs) n s = (0, xs ++ be n.toNat s.toNat) := by unfold rencNum; rw [h]; simp

def RTextPost (f : FV) (w : World) (x : Ending) (w' : World) : Prop := ∃ A n c, x = .returned (.tuple #[.slice A n c, .int .i64 (errF f)]) ∧ n ≤ c ∧ c ≤ maxLen ∧ Rd w' A n (if errF f = 0 then textF f else []) ∧ Below w.heap.size w w'

set_option maxRecDepth 100000 in
set_option maxHeartbeats 1000000 in
theorem rtext_any (f : FV) (A : Option Addr) (n cap : Nat) (w : World) (hr : Rd w A n f.body) :
    Calls Tryz.prog 53 #[.agg #[.int .i64 f.kind, .int .i64 f.gen, .int .i64 f.seq, .slice A n cap]] w (RTextPost f w) := by
  have hlen := hr.1
  have HR := Kept.mk hr
  have H1 := Kept.mk fun w => rfits_any f.kind 1 w
  have H2 := Kept.mk fun w => rfits_any f.gen 4 w
  have H3 := Kept.mk fun w => rfits_any f.seq 4 w
  by_cases hbig : 60000 < n
  · have he : errF f = 3 := by unfold errF; rw [if_pos (by omega)]
    have HE := Kept.mk he
    have P1 : Kept (∀ w', Below w.heap.size w w' → RTextPost f w (.returned (.tuple #[.slice none 0 0, .int .i64 3])) w') := ⟨fun w' b => ⟨none, 0, 0, by rw [HE.out], Nat.le_refl _, by unfold maxLen; omega, by rw [HE.out]; exact Rd.nil_, b⟩⟩
    clear he hr hlen HE
    go_enter Tryz.func53, Tryz.ntmps53
    go_wp2
    go_ret2
    exact (P1.out _ ((Below.refl _ _).alloc (Nat.le_refl _) _))
  · have hn : n ≤ 60000 := by omega
    by_cases hf : fits f.kind 1 = true ∧ fits f.gen 4 = true ∧ fits f.seq 4 = true
    · obtain ⟨f1, f2, f3⟩ := hf
      rw [f1] at H1
      rw [f2] at H2
      rw [f3] at H3
      clear hr
      obtain ⟨W2, hW2⟩ : ∃ W2, (w.alloc (.cells #[.int .i64 f.kind, .int .i64 f.gen, .int .i64 f.seq, .slice A n cap] 56)).alloc (.cells #[.slice none 0 0, .int .i64 0] 130) = W2 := ⟨_, rfl⟩
      have hsz : W2.heap.size = w.heap.size + 1 + 1 := by subst hW2; simp
      have bel2 : Below w.heap.size w W2 := by subst hW2; exact ((Below.refl _ _).alloc (Nat.le_refl _) _).alloc (by simp) _
      have T2 : Tx w w.heap.size (w.heap.size + 1) #[.int .i64 f.kind, .int .i64 f.gen, .int .i64 f.seq, .slice A n cap] A n f.body (0, []) W2 := by
        refine ⟨[w.heap.size + 1], ⟨.slice none 0 0, ?_, World.ownsRow_nil _ _ _ _, by simp [Value.ownBlock]⟩, ?_, HR.out.below bel2, bel2, by simp⟩
        · subst hW2; exact Blk.new_at _ _ _ _ (by simp)
        · subst hW2; exact (Blk.new _ _ _).alloc _
      have hcv := Go.Joins.run_convert_bytes_const_at (P := Tryz.prog) W2 38 5 #[.int .u8 99, .int .u8 102] 2 2 (w.heap.size + 1 + 1) hsz.symm Tryz.underlying38 Tryz.underlying5
      go_enter Tryz.func53, Tryz.ntmps53
      go_wp2_with fail
      refine (H1.out _).mono ?_
      rintro x w' ⟨rfl, rfl⟩
      go_wp2_with fail
      refine (H2.out _).mono ?_
      rintro x w' ⟨rfl, rfl⟩
      go_wp2_with fail
      refine (H3.out _).mono ?_
      rintro x w' ⟨rfl, rfl⟩
      go_wp2_with fail
      have hr2 : Rd (W2.alloc (.cells #[.int .u8 99, .int .u8 102] 5 (2, 3))) (some ⟨w.heap.size + 1 + 1, 0, none⟩) 2 [99, 102] :=
        Rd.made (T := 5) (fr := (2, 3)) (by rw [← hsz]; exact heap_alloc_new W2 _) (by intro x hx; simp at hx; omega) rfl
      refine (txt_raw rfl HR.out (T2.below ((Below.refl _ _).alloc (Nat.le_refl _) _)) (some ⟨w.heap.size + 1 + 1, 0, none⟩) 2 2 [99, 102] hr2 (by simp)).mono ?_
      rintro x w3 ⟨rfl, T3⟩
      have t0 := T3.blk.cell 0
      clear T2 hcv hW2 bel2 hr2
      go_wp2_with fail
      refine (txt_num rfl HR.out T3 f.kind 1 (by simp)).mono ?_
      rintro x w4 ⟨rfl, T4⟩
      rw [rencNum_ok f1] at T4
      clear T3 t0
      go_wp2_with fail
      refine (txt_num rfl HR.out T4 0 1 (by simp [be_len])).mono ?_
      rintro x w5 ⟨rfl, T5⟩
      rw [rencNum_ok (by decide)] at T5
      have t1 := T5.blk.cell 1
      clear T4
      go_wp2_with fail
      refine (txt_num rfl HR.out T5 f.gen 4 (by simp [be_len])).mono ?_
      rintro x w6 ⟨rfl, T6⟩
      rw [rencNum_ok f2] at T6
      have t2 := T6.blk.cell 2
      clear T5 t1
      go_wp2_with fail
      refine (txt_num rfl HR.out T6 f.seq 4 (by simp [be_len])).mono ?_
      rintro x w7 ⟨rfl, T7⟩
      rw [rencNum_ok f3] at T7
      have t3 := T7.blk.cell 3
      clear T6 t2
      go_wp2_with fail
      refine (txt_num rfl HR.out T7 n 4 (by simp [be_len])).mono ?_
      rintro x w8 ⟨rfl, T8⟩
      rw [rencNum_ok (by unfold fits; simp; omega)] at T8
      clear T7 t3
      have hst : [] ++ [99, 102] ++ be f.kind.toNat (Int.toNat 1) ++ be (Int.toNat 0) (Int.toNat 1) ++ be f.gen.toNat (Int.toNat 4) ++ be f.seq.toNat (Int.toNat 4) ++ be (n : Int).toNat (Int.toNat 4) = headF f := by
        unfold headF; rw [hlen]; rfl
      rw [hst] at T8
      clear hst
      have t3 := T8.blk.cell 3
      obtain ⟨A8, c8, q0, hc8, hm8, r8⟩ : ∃ A8 c8, w8.cell? ⟨w.heap.size + 1, 0, none⟩ = some (.slice A8 16 c8) ∧ 16 ≤ c8 ∧ c8 ≤ 9223372036854775807 ∧ Rd w8 A8 16 (headF f) := by
        obtain ⟨F, ⟨v, b8, o8, -⟩, -⟩ := T8
        simp only [headF_len] at o8
        obtain ⟨A8, c8, rfl, h1, h2, h3⟩ := own_rd o8 (headF_bytes f)
        exact ⟨A8, c8, b8.cell 0, h1, h2, h3⟩
      go_upto_region 12 with (fail)
      refine wp_region_noPanic ?_
      refine wp_region_held_drew (S := fun w' : World => w'.cell? ⟨w.heap.size + 1, 0, none⟩ = some (.slice A8 16 c8) ∧ w'.cell? ⟨w.heap.size, 3, none⟩ = some (.slice A n cap)) (by kernel_rfl) ⟨q0, t3⟩ (fun _ => ?_)
      have bd : Below w8.heap.size w8 w8.drew := (Below.refl _ _).drew
      have T9 := T8.below bd
      have r9 := r8.below bd
      have CS : ∀ w', Below w8.heap.size w8 w' → w'.cell? ⟨w.heap.size + 1, 0, none⟩ = some (.slice A8 16 c8) ∧ w'.cell? ⟨w.heap.size, 3, none⟩ = some (.slice A n cap) := fun w' b => ⟨cell_bel q0 b, cell_bel t3 b⟩
      clear T8 r8
      generalize w8.drew = w9 at *
      refine wpAnyH_take (i := 0) (oi := ?o148) (v := ?v148) ?hi148 (by kernel_rfl) (by kernel_rfl) (by kernel_rfl) ?hq148 (Or.inl ⟨?hw148, ?hy148⟩) (by assumption) ?r148
      case hi148 => (simp only [List.getElem?_toArray, List.getElem?_cons_zero]; exact rfl)
      case hq148 => exact fun _ _ _ h => h
      case hw148 => rfl
      case hy148 => (intro w hSw; (try dsimp only at hSw); go_simp; try exact rfl)
      simp only [Act.put, List.setIfInBounds_toArray, List.set_cons_zero, List.set_cons_succ]
      refine wpAnyH_take (i := 1) (oi := ?o149) (v := ?v149) ?hi149 (by kernel_rfl) (by kernel_rfl) (by kernel_rfl) ?hq149 (Or.inl ⟨?hw149, ?hy149⟩) (by assumption) ?r149
      case hi149 => (simp only [List.getElem?_toArray, List.getElem?_cons_succ, List.getElem?_cons_zero]; exact rfl)
      case hq149 => exact fun _ _ _ h => h
      case hw149 => rfl
      case hy149 => (intro w hSw; (try dsimp only at hSw); go_simp; try exact rfl)
      simp only [Act.put, List.setIfInBounds_toArray, List.set_cons_zero, List.set_cons_succ]
      refine wpAnyH_take (i := 2) (oi := ?o150) (v := ?v150) ?hi150 (by kernel_rfl) (by kernel_rfl) (by kernel_rfl) ?hq150 (Or.inl ⟨?hw150, ?hy150⟩) (by assumption) ?r150
      case hi150 => (simp only [List.getElem?_toArray, List.getElem?_cons_succ, List.getElem?_cons_zero]; exact rfl)
      case hq150 => exact fun _ _ _ h => h
      case hw150 => rfl
      case hy150 => (intro w hSw; (try dsimp only at hSw); go_simp; try exact rfl)
      simp only [Act.put, List.setIfInBounds_toArray, List.set_cons_zero, List.set_cons_succ]
      refine wpAnyH_take (i := 3) (oi := ?o151) (v := ?v151) ?hi151 (by kernel_rfl) (by kernel_rfl) (by kernel_rfl) ?hq151 (Or.inl ⟨?hw151, ?hy151⟩) (by assumption) ?r151
      case hi151 => (simp only [List.getElem?_toArray, List.getElem?_cons_succ, List.getElem?_cons_zero]; exact rfl)
      case hq151 => exact fun _ _ _ h => h
      case hw151 => rfl
      case hy151 => (intro w hSw; (try dsimp only at hSw); go_simp; try exact rfl)
      simp only [Act.put, List.setIfInBounds_toArray, List.set_cons_zero, List.set_cons_succ]
      refine wpAnyH_take (i := 5) (oi := ?o152) (v := ?v152) ?hi152 (by kernel_rfl) (by kernel_rfl) (by kernel_rfl) ?hq152 (Or.inl ⟨?hw152, ?hy152⟩) (by assumption) ?r152
      case hi152 => (simp only [List.getElem?_toArray, List.getElem?_cons_succ, List.getElem?_cons_zero]; exact rfl)
      case hq152 => exact fun _ _ _ h => h
      case hw152 => rfl
      case hy152 => (intro w hSw; (try dsimp only at hSw); go_simp; try exact rfl)
      simp only [Act.put, List.setIfInBounds_toArray, List.set_cons_zero, List.set_cons_succ]
      refine wpAnyH_take (i := 6) (oi := ?o153) (v := ?v153) ?hi153 (by kernel_rfl) (by kernel_rfl) (by kernel_rfl) ?hq153 (Or.inl ⟨?hw153, ?hy153⟩) (by assumption) ?r153
      case hi153 => (simp only [List.getElem?_toArray, List.getElem?_cons_succ, List.getElem?_cons_zero]; exact rfl)
      case hq153 => exact fun _ _ _ h => h
      case hw153 => rfl
      case hy153 => (intro w hSw; (try dsimp only at hSw); go_simp; try exact rfl)
      simp only [Act.put, List.setIfInBounds_toArray, List.set_cons_zero, List.set_cons_succ]
      refine wpAnyH_ready (rs := [4]) (by kernel_rfl) (by simp) ?_
      refine AllReadyH.cons (o := ?o155) ?hi155 (fun K hK => ?_) AllReadyH.nil
      case hi155 => (simp only [List.getElem?_toArray, List.getElem?_cons_succ, List.getElem?_cons_zero]; exact rfl)
      go_simp
      go_at_call 42
      refine (copy_any A8 16 c8 (headF f) w9 r9 (by omega)).mono ?_
      rintro x w10 ⟨v10, rfl, o10, b10⟩
      have T10 := T9.below b10
      have B10 : Below w8.heap.size w8 w10 := bd.trans (b10.mono (by have := bd.size; omega))
      refine hK.out _ _ (CS _ B10) (fun _ => ?_)
      clear hK K r9
      try simp only [Act.put, List.setIfInBounds_toArray, List.set_cons_zero, List.set_cons_succ]
      refine wpAnyH_ready (rs := [7]) (by kernel_rfl) (by simp) ?_
      refine AllReadyH.cons (o := ?o157) ?hi157 (fun K hK => ?_) AllReadyH.nil
      case hi157 => (simp only [List.getElem?_toArray, List.getElem?_cons_succ, List.getElem?_cons_zero]; exact rfl)
      refine step_append_rd rfl (.tmp 55) (.tmp 57) 38 (by rfl) w9.heap.size 5 Tryz.underlying38 info_u8 _ 16 _ (by rfl) o10 A n cap f.body (by rfl) T10.rd (by omega) b10.size ?_
      intro v11 w11 o11 g11 b11 a11
      replace o11 := o11.out
      rw [← ints_append] at o11
      obtain ⟨A11, c11, rfl, hc11, hm11, r11⟩ := own_rd o11 ((headF_bytes f).append HR.out.2.1)
      have T11 := T9.below (b10.trans b11)
      have B11 : Below w8.heap.size w8 w11 := B10.trans (b11.mono (by have := bd.size; omega))
      refine hK.out _ _ (CS _ B11) (fun _ => ?_)
      clear hK K T9 T10 o11 o10 g11 a11
      try simp only [Act.put, List.setIfInBounds_toArray, List.set_cons_zero, List.set_cons_succ]
      refine wpAnyH_ready (rs := [8]) (by kernel_rfl) (by simp) ?_
      refine AllReadyH.cons (o := ?o156) ?hi156 (fun K hK => ?_) AllReadyH.nil
      case hi156 => (simp only [List.getElem?_toArray, List.getElem?_cons_succ, List.getElem?_cons_zero]; exact rfl)
      go_simp
      go_at_call 72
      refine (rhash_any A11 (16 + n) c11 (headF f ++ f.body) w11 r11 (by omega)).mono ?_
      rintro x w12 ⟨M, c12, rfl, hM, hc12, hm12, r12, b12⟩
      have T12 := T11.below b12
      have B12 : Below w8.heap.size w8 w12 := B11.trans (b12.mono (by have := B11.size; omega))
      refine hK.out _ _ (CS _ B12) (fun _ => ?_)
      clear hK K T11 r11
      try simp only [Act.put, List.setIfInBounds_toArray, List.set_cons_zero, List.set_cons_succ]
      refine wpAnyH_take (i := 9) (oi := ?o154) (v := ?v154) ?hi154 (by kernel_rfl) (by kernel_rfl) (by kernel_rfl) ?hq154 (Or.inl ⟨?hw154, ?hy154⟩) (by assumption) ?r154
      case hi154 => (simp only [List.getElem?_toArray, List.getElem?_cons_succ, List.getElem?_cons_zero]; exact rfl)
      case hq154 => exact fun _ _ _ h => h
      case hw154 => rfl
      case hy154 => (intro w hSw; (try dsimp only at hSw); go_simp; try exact rfl)
      simp only [Act.put, List.setIfInBounds_toArray, List.set_cons_zero, List.set_cons_succ]
      refine wpAnyH_done (by kernel_rfl) ?_ _
      refine NoPanic.normal ?_
      clear CS q0 t3 b10 b11 b12 B10 B11 B12 bd
      go_wp2_with fail
      refine (txt_raw rfl HR.out T12 _ 8 c12 _ (r12.upto (m := 8) (by omega)) (by simp [headF_len])).mono ?_
      rintro x w13 ⟨rfl, T13⟩
      have t3 := T13.blk.cell 3
      clear T12 r12
      go_wp2_with fail
      refine (txt_raw rfl HR.out T13 A n cap f.body T13.rd (by simp [headF_len, List.length_take]; omega)).mono ?_
      rintro x w14 ⟨rfl, T14⟩
      replace T14 : Tx w w.heap.size (w.heap.size + 1) #[.int .i64 f.kind, .int .i64 f.gen, .int .i64 f.seq, .slice A n cap] A n f.body (0, textF f) w14 := T14
      clear T13 t3
      have PE : Kept (∀ A' n' c', n' ≤ c' → c' ≤ maxLen → Rd w14 A' n' (textF f) → RTextPost f w (.returned (.tuple #[.slice A' n' c', .int .i64 0])) w14) := ⟨fun A' n' c' h1 h2 h3 => by
        have e0 : errF f = 0 := by unfold errF; rw [if_neg (by omega), if_pos ⟨f1, f2, f3⟩]
        exact ⟨A', n', c', by rw [e0], h1, h2, by rw [if_pos e0]; exact h3, T14.bel⟩⟩
      obtain ⟨F, ⟨v, b14, o14, -⟩, -⟩ := T14
      obtain ⟨A14, c14, rfl, hc14, hm14, r14⟩ := own_rd o14 (textF_bytes f HR.out.2.1)
      have q0 := b14.cell 0
      have PF := Kept.mk (PE.out _ _ _ hc14 hm14 r14)
      clear PE b14 o14 r14
      go_wp2
      go_ret2
      exact PF.out
    · have he : errF f = 1 := by unfold errF; rw [if_neg (by omega), if_neg hf]
      have P1 : Kept (∀ w', Below w.heap.size w w' → RTextPost f w (.returned (.tuple #[.slice none 0 0, .int .i64 1])) w') := ⟨fun w' b => ⟨none, 0, 0, by rw [he], Nat.le_refl _, by unfold maxLen; omega, by rw [he]; exact Rd.nil_, b⟩⟩
      clear he hr hlen
      cases f1 : fits f.kind 1 with
      | false =>
        rw [f1] at H1
        clear hf
        go_enter Tryz.func53, Tryz.ntmps53
        go_wp2_with fail
        refine (H1.out _).mono ?_
        rintro x w' ⟨rfl, rfl⟩
        go_wp2
        go_ret2
        exact (P1.out _ ((Below.refl _ _).alloc (Nat.le_refl _) _))
      | true =>
        rw [f1] at H1 hf
        cases f2 : fits f.gen 4 with
        | false =>
          rw [f2] at H2
          clear hf
          go_enter Tryz.func53, Tryz.ntmps53
          go_wp2_with fail
          refine (H1.out _).mono ?_
          rintro x w' ⟨rfl, rfl⟩
          go_wp2_with fail
          refine (H2.out _).mono ?_
          rintro x w' ⟨rfl, rfl⟩
          go_wp2
          go_ret2
          exact (P1.out _ ((Below.refl _ _).alloc (Nat.le_refl _) _))
        | true =>
          have f3 : fits f.seq 4 = false := by
            cases h : fits f.seq 4 with
            | false => rfl
            | true => exact absurd ⟨rfl, f2, h⟩ hf
          rw [f2] at H2
          rw [f3] at H3
          clear hf
          go_enter Tryz.func53, Tryz.ntmps53
          go_wp2_with fail
          refine (H1.out _).mono ?_
          rintro x w' ⟨rfl, rfl⟩
          go_wp2_with fail
          refine (H2.out _).mono ?_
          rintro x w' ⟨rfl, rfl⟩
          go_wp2_with fail
          refine (H3.out _).mono ?_
          rintro x w' ⟨rfl, rfl⟩
          go_wp2
          go_ret2
          exact (P1.out _ ((Below.refl _ _).alloc (Nat.le_refl _) _))
end Go.Proofs.YtjlhnhkjgcbnnaaGreat.Frame

/-
  The document's own frame: its sectors.
-/

namespace Go.Proofs.YtjlhnhkjgcbnnaaGreat.Frame
open Go.RowKit Go.Proofs.YtjlhnhkjgcbnnaaGreat.Sha Go.Proofs.YtjlhnhkjgcbnnaaGreat.Wire

theorem lay_step {w : World} {N q m : Nat} {v : Value} {b : List Int} (hq : 63 * m = q) (hml : q < b.length) (mk : Int) (hmk : mk = if m = 0 then 1 else 2)
    (o : w.ownsRow N 5 1 v (m + min q b.length + 1 + (min (q + 63) b.length - q)) (ints .u8 (cat (chunk b) m) ++ ints .u8 [mk] ++ ints .u8 ((b.take (min (q + 63) b.length)).drop q))) :
    w.ownsRow N 5 1 v (m + 1 + min (63 * (m + 1)) b.length) (ints .u8 (cat (chunk b) (m + 1))) := by
  have e : ints .u8 (cat (chunk b) m) ++ ints .u8 [mk] ++ ints .u8 ((b.take (min (q + 63) b.length)).drop q) = ints .u8 (cat (chunk b) (m + 1)) := by
    rw [piece_is, ← ints_append, ← ints_append, cat, chunk, hmk, hq]; simp
  rw [e, show m + min q b.length + 1 + (min (q + 63) b.length - q) = m + 1 + min (63 * (m + 1)) b.length by omega] at o
  exact o

def RPutPost (f : FV) (w : World) (x : Ending) (w' : World) : Prop := ∃ A n c, x = .returned (.tuple #[.slice A n c, .int .i64 (putF f).1]) ∧ n ≤ c ∧ c ≤ maxLen ∧ Rd w' A n (putF f).2 ∧ Below w.heap.size w w'
/-- with new memory -/
def RPutNew (f : FV) (w : World) (x : Ending) (w' : World) : Prop := ∃ A n c, x = .returned (.tuple #[.slice A n c, .int .i64 (putF f).1]) ∧ n ≤ c ∧ c ≤ maxLen ∧ Rd w' A n (putF f).2 ∧ Below w.heap.size w w' ∧ ∀ F : List Nat, (∀ k ∈ F, k < w.heap.size) → Off A n F

set_option maxRecDepth 100000 in
set_option maxHeartbeats 1000000 in
theorem rput_new (f : FV) (A : Option Addr) (n cap : Nat) (w : World) (hr : Rd w A n f.body) :
    Calls Tryz.prog 25 #[.agg #[.int .i64 f.kind, .int .i64 f.gen, .int .i64 f.seq, .slice A n cap]] w (RPutNew f w) := by
  have hlen := hr.1
  have b1 : Below w.heap.size w (w.alloc (.cells #[.int .i64 f.kind, .int .i64 f.gen, .int .i64 f.seq, .slice A n cap] 56)) := (Below.refl _ _).alloc (Nat.le_refl _) _
  have CT := Kept.mk (rtext_any f A n cap _ (hr.below b1))
  go_enter Tryz.func25, Tryz.ntmps25
  go_wp2_with fail
  refine CT.out.mono ?_
  rintro x wt ⟨At, nt, ct, rfl, hct, hcm, rt, bt⟩
  have hnt := rt.1
  have BT := Kept.mk (b1.trans (bt.mono (by simp)))
  have HRT := Kept.mk rt
  obtain ⟨N, hN⟩ : ∃ N, wt.heap.size = N := ⟨_, rfl⟩
  clear CT hr b1 bt rt
  by_cases he : errF f = 0
  · rw [if_pos he] at hnt HRT
    rw [he]
    have hL : (textF f).length ≤ 60024 := by
      rw [textF_len]; unfold errF at he; split at he <;> omega
    have PE : Kept (∀ A' n' c' w', n' ≤ c' → c' ≤ maxLen → Rd w' A' n' (laid (textF f)) → Below N wt w' → (∀ F : List Nat, (∀ k ∈ F, k < N) → Off A' n' F) → RPutNew f w (.returned (.tuple #[.slice A' n' c', .int .i64 0])) w') := ⟨fun A' n' c' w' h1 h2 h3 h4 h5 => by
      refine ⟨A', n', c', by simp only [putF, he], h1, h2, ?_, BT.out.trans (h4.mono (by rw [← hN]; exact BT.out.size)), fun F hF => h5 F (fun k hk => by have := hF k hk; have := BT.out.size; omega)⟩
      simp only [putF]; rw [if_pos he]; exact h3⟩
    obtain ⟨b, hb⟩ : ∃ b, textF f = b := ⟨_, rfl⟩
    rw [hb] at hnt HRT hL PE
    subst hnt
    clear he hb BT
    go_wp2_with fail
    go_loopw [6, 7, 8] (fun v j _mk wr => ∃ m : Nat, m ≤ secs b.length ∧ j = .int .i64 ((63 * m : Nat) : Int) ∧ Kept (wr.ownsRow N 5 1 v (m + min (63 * m) b.length) (ints .u8 (cat (chunk b) m))) ∧ Kept (Below N wt wr)) (fun _ j _ _ => b.length + 63 - (Go.RowKit.intOf j).toNat)
    case atStart => exact ⟨0, by omega, rfl, ⟨World.ownsRow_nil _ _ _ _⟩, ⟨Below.refl _ _⟩⟩
    case round =>
      obtain ⟨m, hm, rfl, O, B⟩ := hrel
      by_cases hml : 63 * m < b.length
      · have hml' : ((63 * m : Nat) : Int) < b.length := by omega
        obtain ⟨q, hq⟩ : ∃ q, 63 * m = q := ⟨_, rfl⟩
        rw [hq] at hml hml' O ⊢
        by_cases hm0 : m = 0
        · have hq0 : q = 0 := by omega
          go_upto_region 11 with (fail)
          clear hq0
          have bd : Below N wt wr.drew := B.out.drew
          have od := O.out.drew
          have WR : IntKind.i64.wrap ((q : Int) + 63) = (q : Int) + 63 := by simp only [IntKind.wrap_i64]; omega
          obtain ⟨A2, hs, r2, -⟩ := slice_lh HRT.out hct q (min (q + 63) b.length) (by omega) (by omega) (q : Int) (if (b.length : Int) < (q : Int) + 63 then (b.length : Int) else (q : Int) + 63) rfl (by split <;> omega)
          refine wp_region_noPanic ?_
          refine wp_region_held_drew (S := fun _ : World => True) (by kernel_rfl) trivial (fun _ => ?_)
          generalize wr.drew = wd at *
          refine wpAnyH_take (i := 0) (oi := ?o158) (v := ?v158) ?hi158 (by kernel_rfl) (by kernel_rfl) (by kernel_rfl) ?hq158 (Or.inl ⟨?hw158, ?hy158⟩) (by assumption) ?r158
          case hi158 => (simp only [List.getElem?_toArray, List.getElem?_cons_zero]; exact rfl)
          case hq158 => exact fun _ _ _ h => h
          case hw158 => rfl
          case hy158 => (intro w hSw; (try dsimp only at hSw); go_simp; try exact rfl)
          simp only [Act.put, List.setIfInBounds_toArray, List.set_cons_zero, List.set_cons_succ]
          refine wpAnyH_take (i := 1) (oi := ?o159) (v := ?v159) ?hi159 (by kernel_rfl) (by kernel_rfl) (by kernel_rfl) ?hq159 (Or.inl ⟨?hw159, ?hy159⟩) (by assumption) ?r159
          case hi159 => (simp only [List.getElem?_toArray, List.getElem?_cons_succ, List.getElem?_cons_zero]; exact rfl)
          case hq159 => exact fun _ _ _ h => h
          case hw159 => rfl
          case hy159 => (intro w hSw; (try dsimp only at hSw); go_simp; try exact rfl)
          simp only [Act.put, List.setIfInBounds_toArray, List.set_cons_zero, List.set_cons_succ]
          refine wpAnyH_take (i := 4) (oi := ?o160) (v := ?v160) ?hi160 (by kernel_rfl) (by kernel_rfl) (by kernel_rfl) ?hq160 (Or.inl ⟨?hw160, ?hy160⟩) (by assumption) ?r160
          case hi160 => (simp only [List.getElem?_toArray, List.getElem?_cons_succ, List.getElem?_cons_zero]; exact rfl)
          case hq160 => exact fun _ _ _ h => h
          case hw160 => rfl
          case hy160 => (intro w hSw; (try dsimp only at hSw); go_simp; try exact rfl)
          simp only [Act.put, List.setIfInBounds_toArray, List.set_cons_zero, List.set_cons_succ]
          refine wpAnyH_take (i := 5) (oi := ?o161) (v := ?v161) ?hi161 (by kernel_rfl) (by kernel_rfl) (by kernel_rfl) ?hq161 (Or.inl ⟨?hw161, ?hy161⟩) (by assumption) ?r161
          case hi161 => (simp only [List.getElem?_toArray, List.getElem?_cons_succ, List.getElem?_cons_zero]; exact rfl)
          case hq161 => exact fun _ _ _ h => h
          case hw161 => rfl
          case hy161 => (intro w hSw; (try dsimp only at hSw); go_simp; try exact rfl)
          simp only [Act.put, List.setIfInBounds_toArray, List.set_cons_zero, List.set_cons_succ]
          refine wpAnyH_take (i := 6) (oi := ?o162) (v := ?v162) ?hi162 (by kernel_rfl) (by kernel_rfl) (by kernel_rfl) ?hq162 (Or.inl ⟨?hw162, ?hy162⟩) (by assumption) ?r162
          case hi162 => (simp only [List.getElem?_toArray, List.getElem?_cons_succ, List.getElem?_cons_zero]; exact rfl)
          case hq162 => exact fun _ _ _ h => h
          case hw162 => rfl
          case hy162 => (intro w hSw; (try dsimp only at hSw); go_simp; try exact rfl)
          simp only [Act.put, List.setIfInBounds_toArray, List.set_cons_zero, List.set_cons_succ]
          refine wpAnyH_take (i := 7) (oi := ?o163) (v := ?v163) ?hi163 (by kernel_rfl) (by kernel_rfl) (by kernel_rfl) ?hq163 (Or.inl ⟨?hw163, ?hy163⟩) (by assumption) ?r163
          case hi163 => (simp only [List.getElem?_toArray, List.getElem?_cons_succ, List.getElem?_cons_zero]; exact rfl)
          case hq163 => exact fun _ _ _ h => h
          case hw163 => rfl
          case hy163 => (intro w hSw; (try dsimp only at hSw); go_simp; try exact rfl)
          simp only [Act.put, List.setIfInBounds_toArray, List.set_cons_zero, List.set_cons_succ]
          refine wpAnyH_take (i := 8) (oi := ?o164) (v := ?v164) ?hi164 (by kernel_rfl) (by kernel_rfl) (by kernel_rfl) ?hq164 (Or.inl ⟨?hw164, ?hy164⟩) (by assumption) ?r164
          case hi164 => (simp only [List.getElem?_toArray, List.getElem?_cons_succ, List.getElem?_cons_zero]; exact rfl)
          case hq164 => exact fun _ _ _ h => h
          case hw164 => rfl
          case hy164 => (intro w hSw; (try dsimp only at hSw); go_simp; try exact rfl)
          simp only [Act.put, List.setIfInBounds_toArray, List.set_cons_zero, List.set_cons_succ]
          refine wpAnyH_take (i := 9) (oi := ?o165) (v := ?v165) ?hi165 (by kernel_rfl) (by kernel_rfl) (by kernel_rfl) ?hq165 (Or.inl ⟨?hw165, ?hy165⟩) (by assumption) ?r165
          case hi165 => (simp only [List.getElem?_toArray, List.getElem?_cons_succ, List.getElem?_cons_zero]; exact rfl)
          case hq165 => exact fun _ _ _ h => h
          case hw165 => rfl
          case hy165 => (intro w hSw; (try dsimp only at hSw); go_simp; try exact rfl)
          simp only [Act.put, List.setIfInBounds_toArray, List.set_cons_zero, List.set_cons_succ]
          refine wpAnyH_take (i := 10) (oi := ?o166) (v := ?v166) ?hi166 (by kernel_rfl) (by kernel_rfl) (by kernel_rfl) ?hq166 (Or.inl ⟨?hw166, ?hy166⟩) (by assumption) ?r166
          case hi166 => (simp only [List.getElem?_toArray, List.getElem?_cons_succ, List.getElem?_cons_zero]; exact rfl)
          case hq166 => exact fun _ _ _ h => h
          case hw166 => rfl
          case hy166 => (intro w hSw; (try dsimp only at hSw); go_simp; try exact rfl)
          simp only [Act.put, List.setIfInBounds_toArray, List.set_cons_zero, List.set_cons_succ]
          refine wpAnyH_take (i := 11) (oi := ?o167) (v := ?v167) ?hi167 (by kernel_rfl) (by kernel_rfl) (by kernel_rfl) ?hq167 (Or.inl ⟨?hw167, ?hy167⟩) (by assumption) ?r167
          case hi167 => (simp only [List.getElem?_toArray, List.getElem?_cons_succ, List.getElem?_cons_zero]; exact rfl)
          case hq167 => exact fun _ _ _ h => h
          case hw167 => rfl
          case hy167 => (intro w hSw; (try dsimp only at hSw); go_simp; try exact rfl)
          simp only [Act.put, List.setIfInBounds_toArray, List.set_cons_zero, List.set_cons_succ]
          refine wpAnyH_ready (rs := [2]) (by kernel_rfl) (by simp) ?_
          refine AllReadyH.cons (o := ?o180) ?hi180 (fun K hK => ?_) AllReadyH.nil
          case hi180 => (simp only [List.getElem?_toArray, List.getElem?_cons_succ, List.getElem?_cons_zero]; exact rfl)
          go_simp
          have RB := Kept.mk (Blk.new wd 5 #[.int .u8 1])
          have O8 := od.alloc (.cells #[.int .u8 1] 5)
          have hsz : N ≤ wd.heap.size := by rw [← hN]; exact bd.size
          have B9 : Below N wt (wd.alloc (.cells #[.int .u8 1] 5)) := bd.alloc hsz _
          refine hK.out _ _ trivial (fun _ => ?_)
          clear hK K od bd
          try simp only [Act.put, List.setIfInBounds_toArray, List.set_cons_zero, List.set_cons_succ]
          generalize wd.alloc (.cells #[.int .u8 1] 5) = w9 at *
          generalize wd.heap.size = gB at *
          refine wpAnyH_ready (rs := [3]) (by kernel_rfl) (by simp) ?_
          refine AllReadyH.cons (o := ?o182) ?hi182 (fun K hK => ?_) AllReadyH.nil
          case hi182 => (simp only [List.getElem?_toArray, List.getElem?_cons_succ, List.getElem?_cons_zero]; exact rfl)
          refine step_append_rd rfl (.tmp 25) (.tmp 27) 38 (by rfl) N 5 Tryz.underlying38 info_u8 _ _ _ (by rfl) O8 (some ⟨gB, 0, none⟩) 1 1 [1] (by rfl) (Rd.blk (xs := [1]) RB.out (by intro x hx; simp at hx; omega) rfl) (by unfold secs at hm; omega) (by rw [← hN]; exact B9.size) ?_
          intro v3 w3 o3 g3 b3 a3
          have B3 := B9.trans b3
          refine hK.out _ _ trivial (fun _ => ?_)
          clear hK K
          try simp only [Act.put, List.setIfInBounds_toArray, List.set_cons_zero, List.set_cons_succ]
          refine wpAnyH_ready (rs := [12]) (by kernel_rfl) (by simp) ?_
          refine AllReadyH.cons (o := ?o183) ?hi183 (fun K hK => ?_) AllReadyH.nil
          case hi183 => (simp only [List.getElem?_toArray, List.getElem?_cons_succ, List.getElem?_cons_zero]; exact rfl)
          refine step_append_rd rfl (.tmp 28) (.tmp 36) 38 (by rfl) N 5 Tryz.underlying38 info_u8 _ _ _ (by rfl) o3.out A2 (min (q + 63) b.length - q) (ct - q) _ (by rfl) (r2.below (by rw [hN]; exact B3)) (by unfold secs at hm; omega) (by rw [← hN]; exact B3.size) ?_
          intro v12 w12 o12 g12 b12 a12
          have B12 := Kept.mk (B3.trans b12)
          refine hK.out _ _ trivial (fun _ => ?_)
          clear hK K
          try simp only [Act.put, List.setIfInBounds_toArray, List.set_cons_zero, List.set_cons_succ]
          refine wpAnyH_take (i := 13) (oi := ?o168) (v := ?v168) ?hi168 (by kernel_rfl) (by kernel_rfl) (by kernel_rfl) ?hq168 (Or.inl ⟨?hw168, ?hy168⟩) (by assumption) ?r168
          case hi168 => (simp only [List.getElem?_toArray, List.getElem?_cons_succ, List.getElem?_cons_zero]; exact rfl)
          case hq168 => exact fun _ _ _ h => h
          case hw168 => rfl
          case hy168 => (intro w hSw; (try dsimp only at hSw); go_simp; try exact rfl)
          simp only [Act.put, List.setIfInBounds_toArray, List.set_cons_zero, List.set_cons_succ]
          refine wpAnyH_done (by kernel_rfl) ?_ _
          refine NoPanic.normal ?_
          have O12 := Kept.mk (lay_step hq hml 1 (by rw [if_pos hm0]) o12.out)
          clear o12 g12 b12 a12 B3 o3 g3 b3 a3 B9 O8 RB hs r2 WR
          go_wp2
          go_roundw
          case rel => exact ⟨m + 1, by unfold secs; omega, by go_num, O12, B12⟩
          case measure => simp [Go.RowKit.intOf]; omega
        · have hq0 : ¬ (q : Int) = 0 := by omega
          go_upto_region 11 with (fail)
          clear hq0
          have bd : Below N wt wr.drew := B.out.drew
          have od := O.out.drew
          have WR : IntKind.i64.wrap ((q : Int) + 63) = (q : Int) + 63 := by simp only [IntKind.wrap_i64]; omega
          obtain ⟨A2, hs, r2, -⟩ := slice_lh HRT.out hct q (min (q + 63) b.length) (by omega) (by omega) (q : Int) (if (b.length : Int) < (q : Int) + 63 then (b.length : Int) else (q : Int) + 63) rfl (by split <;> omega)
          refine wp_region_noPanic ?_
          refine wp_region_held_drew (S := fun _ : World => True) (by kernel_rfl) trivial (fun _ => ?_)
          generalize wr.drew = wd at *
          refine wpAnyH_take (i := 0) (oi := ?o169) (v := ?v169) ?hi169 (by kernel_rfl) (by kernel_rfl) (by kernel_rfl) ?hq169 (Or.inl ⟨?hw169, ?hy169⟩) (by assumption) ?r169
          case hi169 => (simp only [List.getElem?_toArray, List.getElem?_cons_zero]; exact rfl)
          case hq169 => exact fun _ _ _ h => h
          case hw169 => rfl
          case hy169 => (intro w hSw; (try dsimp only at hSw); go_simp; try exact rfl)
          simp only [Act.put, List.setIfInBounds_toArray, List.set_cons_zero, List.set_cons_succ]
          refine wpAnyH_take (i := 1) (oi := ?o170) (v := ?v170) ?hi170 (by kernel_rfl) (by kernel_rfl) (by kernel_rfl) ?hq170 (Or.inl ⟨?hw170, ?hy170⟩) (by assumption) ?r170
          case hi170 => (simp only [List.getElem?_toArray, List.getElem?_cons_succ, List.getElem?_cons_zero]; exact rfl)
          case hq170 => exact fun _ _ _ h => h
          case hw170 => rfl
          case hy170 => (intro w hSw; (try dsimp only at hSw); go_simp; try exact rfl)
          simp only [Act.put, List.setIfInBounds_toArray, List.set_cons_zero, List.set_cons_succ]
          refine wpAnyH_take (i := 4) (oi := ?o171) (v := ?v171) ?hi171 (by kernel_rfl) (by kernel_rfl) (by kernel_rfl) ?hq171 (Or.inl ⟨?hw171, ?hy171⟩) (by assumption) ?r171
          case hi171 => (simp only [List.getElem?_toArray, List.getElem?_cons_succ, List.getElem?_cons_zero]; exact rfl)
          case hq171 => exact fun _ _ _ h => h
          case hw171 => rfl
          case hy171 => (intro w hSw; (try dsimp only at hSw); go_simp; try exact rfl)
          simp only [Act.put, List.setIfInBounds_toArray, List.set_cons_zero, List.set_cons_succ]
          refine wpAnyH_take (i := 5) (oi := ?o172) (v := ?v172) ?hi172 (by kernel_rfl) (by kernel_rfl) (by kernel_rfl) ?hq172 (Or.inl ⟨?hw172, ?hy172⟩) (by assumption) ?r172
          case hi172 => (simp only [List.getElem?_toArray, List.getElem?_cons_succ, List.getElem?_cons_zero]; exact rfl)
          case hq172 => exact fun _ _ _ h => h
          case hw172 => rfl
          case hy172 => (intro w hSw; (try dsimp only at hSw); go_simp; try exact rfl)
          simp only [Act.put, List.setIfInBounds_toArray, List.set_cons_zero, List.set_cons_succ]
          refine wpAnyH_take (i := 6) (oi := ?o173) (v := ?v173) ?hi173 (by kernel_rfl) (by kernel_rfl) (by kernel_rfl) ?hq173 (Or.inl ⟨?hw173, ?hy173⟩) (by assumption) ?r173
          case hi173 => (simp only [List.getElem?_toArray, List.getElem?_cons_succ, List.getElem?_cons_zero]; exact rfl)
          case hq173 => exact fun _ _ _ h => h
          case hw173 => rfl
          case hy173 => (intro w hSw; (try dsimp only at hSw); go_simp; try exact rfl)
          simp only [Act.put, List.setIfInBounds_toArray, List.set_cons_zero, List.set_cons_succ]
          refine wpAnyH_take (i := 7) (oi := ?o174) (v := ?v174) ?hi174 (by kernel_rfl) (by kernel_rfl) (by kernel_rfl) ?hq174 (Or.inl ⟨?hw174, ?hy174⟩) (by assumption) ?r174
          case hi174 => (simp only [List.getElem?_toArray, List.getElem?_cons_succ, List.getElem?_cons_zero]; exact rfl)
          case hq174 => exact fun _ _ _ h => h
          case hw174 => rfl
          case hy174 => (intro w hSw; (try dsimp only at hSw); go_simp; try exact rfl)
          simp only [Act.put, List.setIfInBounds_toArray, List.set_cons_zero, List.set_cons_succ]
          refine wpAnyH_take (i := 8) (oi := ?o175) (v := ?v175) ?hi175 (by kernel_rfl) (by kernel_rfl) (by kernel_rfl) ?hq175 (Or.inl ⟨?hw175, ?hy175⟩) (by assumption) ?r175
          case hi175 => (simp only [List.getElem?_toArray, List.getElem?_cons_succ, List.getElem?_cons_zero]; exact rfl)
          case hq175 => exact fun _ _ _ h => h
          case hw175 => rfl
          case hy175 => (intro w hSw; (try dsimp only at hSw); go_simp; try exact rfl)
          simp only [Act.put, List.setIfInBounds_toArray, List.set_cons_zero, List.set_cons_succ]
          refine wpAnyH_take (i := 9) (oi := ?o176) (v := ?v176) ?hi176 (by kernel_rfl) (by kernel_rfl) (by kernel_rfl) ?hq176 (Or.inl ⟨?hw176, ?hy176⟩) (by assumption) ?r176
          case hi176 => (simp only [List.getElem?_toArray, List.getElem?_cons_succ, List.getElem?_cons_zero]; exact rfl)
          case hq176 => exact fun _ _ _ h => h
          case hw176 => rfl
          case hy176 => (intro w hSw; (try dsimp only at hSw); go_simp; try exact rfl)
          simp only [Act.put, List.setIfInBounds_toArray, List.set_cons_zero, List.set_cons_succ]
          refine wpAnyH_take (i := 10) (oi := ?o177) (v := ?v177) ?hi177 (by kernel_rfl) (by kernel_rfl) (by kernel_rfl) ?hq177 (Or.inl ⟨?hw177, ?hy177⟩) (by assumption) ?r177
          case hi177 => (simp only [List.getElem?_toArray, List.getElem?_cons_succ, List.getElem?_cons_zero]; exact rfl)
          case hq177 => exact fun _ _ _ h => h
          case hw177 => rfl
          case hy177 => (intro w hSw; (try dsimp only at hSw); go_simp; try exact rfl)
          simp only [Act.put, List.setIfInBounds_toArray, List.set_cons_zero, List.set_cons_succ]
          refine wpAnyH_take (i := 11) (oi := ?o178) (v := ?v178) ?hi178 (by kernel_rfl) (by kernel_rfl) (by kernel_rfl) ?hq178 (Or.inl ⟨?hw178, ?hy178⟩) (by assumption) ?r178
          case hi178 => (simp only [List.getElem?_toArray, List.getElem?_cons_succ, List.getElem?_cons_zero]; exact rfl)
          case hq178 => exact fun _ _ _ h => h
          case hw178 => rfl
          case hy178 => (intro w hSw; (try dsimp only at hSw); go_simp; try exact rfl)
          simp only [Act.put, List.setIfInBounds_toArray, List.set_cons_zero, List.set_cons_succ]
          refine wpAnyH_ready (rs := [2]) (by kernel_rfl) (by simp) ?_
          refine AllReadyH.cons (o := ?o181) ?hi181 (fun K hK => ?_) AllReadyH.nil
          case hi181 => (simp only [List.getElem?_toArray, List.getElem?_cons_succ, List.getElem?_cons_zero]; exact rfl)
          go_simp
          have RB := Kept.mk (Blk.new wd 5 #[.int .u8 2])
          have O8 := od.alloc (.cells #[.int .u8 2] 5)
          have hsz : N ≤ wd.heap.size := by rw [← hN]; exact bd.size
          have B9 : Below N wt (wd.alloc (.cells #[.int .u8 2] 5)) := bd.alloc hsz _
          refine hK.out _ _ trivial (fun _ => ?_)
          clear hK K od bd
          try simp only [Act.put, List.setIfInBounds_toArray, List.set_cons_zero, List.set_cons_succ]
          generalize wd.alloc (.cells #[.int .u8 2] 5) = w9 at *
          generalize wd.heap.size = gB at *
          refine wpAnyH_ready (rs := [3]) (by kernel_rfl) (by simp) ?_
          refine AllReadyH.cons (o := ?o184) ?hi184 (fun K hK => ?_) AllReadyH.nil
          case hi184 => (simp only [List.getElem?_toArray, List.getElem?_cons_succ, List.getElem?_cons_zero]; exact rfl)
          refine step_append_rd rfl (.tmp 25) (.tmp 27) 38 (by rfl) N 5 Tryz.underlying38 info_u8 _ _ _ (by rfl) O8 (some ⟨gB, 0, none⟩) 1 1 [2] (by rfl) (Rd.blk (xs := [2]) RB.out (by intro x hx; simp at hx; omega) rfl) (by unfold secs at hm; omega) (by rw [← hN]; exact B9.size) ?_
          intro v3 w3 o3 g3 b3 a3
          have B3 := B9.trans b3
          refine hK.out _ _ trivial (fun _ => ?_)
          clear hK K
          try simp only [Act.put, List.setIfInBounds_toArray, List.set_cons_zero, List.set_cons_succ]
          refine wpAnyH_ready (rs := [12]) (by kernel_rfl) (by simp) ?_
          refine AllReadyH.cons (o := ?o185) ?hi185 (fun K hK => ?_) AllReadyH.nil
          case hi185 => (simp only [List.getElem?_toArray, List.getElem?_cons_succ, List.getElem?_cons_zero]; exact rfl)
          refine step_append_rd rfl (.tmp 28) (.tmp 36) 38 (by rfl) N 5 Tryz.underlying38 info_u8 _ _ _ (by rfl) o3.out A2 (min (q + 63) b.length - q) (ct - q) _ (by rfl) (r2.below (by rw [hN]; exact B3)) (by unfold secs at hm; omega) (by rw [← hN]; exact B3.size) ?_
          intro v12 w12 o12 g12 b12 a12
          have B12 := Kept.mk (B3.trans b12)
          refine hK.out _ _ trivial (fun _ => ?_)
          clear hK K
          try simp only [Act.put, List.setIfInBounds_toArray, List.set_cons_zero, List.set_cons_succ]
          refine wpAnyH_take (i := 13) (oi := ?o179) (v := ?v179) ?hi179 (by kernel_rfl) (by kernel_rfl) (by kernel_rfl) ?hq179 (Or.inl ⟨?hw179, ?hy179⟩) (by assumption) ?r179
          case hi179 => (simp only [List.getElem?_toArray, List.getElem?_cons_succ, List.getElem?_cons_zero]; exact rfl)
          case hq179 => exact fun _ _ _ h => h
          case hw179 => rfl
          case hy179 => (intro w hSw; (try dsimp only at hSw); go_simp; try exact rfl)
          simp only [Act.put, List.setIfInBounds_toArray, List.set_cons_zero, List.set_cons_succ]
          refine wpAnyH_done (by kernel_rfl) ?_ _
          refine NoPanic.normal ?_
          have O12 := Kept.mk (lay_step hq hml 2 (by rw [if_neg hm0]) o12.out)
          clear o12 g12 b12 a12 B3 o3 g3 b3 a3 B9 O8 RB hs r2 WR
          go_wp2
          go_roundw
          case rel => exact ⟨m + 1, by unfold secs; omega, by go_num, O12, B12⟩
          case measure => simp [Go.RowKit.intOf]; omega
      · have hml' : ¬ ((63 * m : Nat) : Int) < b.length := by omega
        obtain rfl : m = secs b.length := by unfold secs at hm ⊢; omega
        obtain ⟨S, hS⟩ : ∃ S, secs b.length = S := ⟨_, rfl⟩
        have hSd : (b.length + 62) / 63 = S := by rw [← hS]; rfl
        obtain ⟨t, ht⟩ : ∃ t, 64 * S - (S + b.length) = t := ⟨_, rfl⟩
        have hlaid : laid b = cat (chunk b) S ++ List.replicate t 0 := by unfold laid; rw [hS, ht]
        rw [hS] at O hml hml' hm ⊢
        rw [show S + min (63 * S) b.length = S + b.length by omega] at O
        rw [hlaid] at PE
        obtain ⟨l, hl⟩ : ∃ l, S + b.length = l := ⟨_, rfl⟩
        rw [hl] at O ht
        have hcl : (cat (chunk b) S).length = l := by have := O.out.1; rw [ints_len] at this; omega
        have hcb : Bytes (cat (chunk b) S) := cat_chunk_bytes b HRT.out.2.1 S
        have hl1 : l + t = 64 * S := by omega
        have ht64 : t < 64 := by omega
        have hl2 : l + t ≤ 64000 := by omega
        clear hlaid
        generalize cat (chunk b) S = C at *
        go_wp2
        go_loopw [6] (fun v wr => ∃ (p c : Nat) (Av : Option Addr), v = .slice Av (l + p) c ∧ p ≤ t ∧ Kept (wr.ownsRow N 5 1 v (l + p) (ints .u8 (C ++ List.replicate p 0))) ∧ Kept (Below N wt wr)) (fun v _ => l + t - lenOf v)
        case atStart =>
          obtain ⟨Av, c, rfl⟩ := own_shape O.out
          exact ⟨0, c, Av, rfl, by omega, by simpa using O, B⟩
        case round =>
          obtain ⟨p, c, Av, rfl, hp, O2, B2⟩ := hrel
          obtain ⟨y, hy⟩ : ∃ y, l + p = y := ⟨_, rfl⟩
          have hy2 : y ≤ 64000 := by omega
          have hr0 : Int.tmod (y : Int) 64 = ((y % 64 : Nat) : Int) := by rw [Int.tmod_eq_emod_of_nonneg (by omega)]; omega
          by_cases hpt : p < t
          · have hne : ¬ ((y % 64 : Nat) : Int) = 0 := by omega
            rw [hy] at O2 ⊢
            have hz : l + (p + 1) = y + 1 := by omega
            generalize y % 64 = z at *
            go_wp2_with ((with_reducible refine sel 44 ?_); refine wpList_append_rda rfl (.tmp 42) (.tmp 43) 38 rfl N 5 Tryz.underlying38 info_u8 _ y _ rfl (O2.out.alloc _) _ 1 1 [0] rfl (rd_one _ _ (by omega)) (by omega) (by have := B2.out.size; simp; omega) ?_; intro v7 w7 o7 g7 a7; have B7 := Kept.mk ((B2.out.alloc (by have := B2.out.size; omega) (.cells #[.int .u8 0] 5)).trans (own_below (O2.out.alloc (.cells #[.int .u8 0] 5)) g7 (by have := B2.out.size; simp; omega))); clear g7 a7)
            obtain ⟨A7, c7, rfl⟩ := own_shape o7.out
            go_roundw
            case rel =>
              refine ⟨p + 1, c7, A7, by rw [hz], by omega, ⟨?_⟩, B7⟩
              have := o7.out
              rw [← ints_append, List.append_assoc, ← List.replicate_succ'] at this
              rw [hz]; exact this
            case measure => simp [lenOf]; omega
          · obtain rfl : p = t := by omega
            have hne : ((y % 64 : Nat) : Int) = 0 := by omega
            have h5 : ∀ F : List Nat, (∀ k ∈ F, k < N) → Off Av (l + p) F := fun F hF => own_off O2.out (fun q hq hm => by
              have := (O2.out.lt q (by simpa using hq)).1
              have := hF q hm
              omega)
            obtain ⟨-, h1, h2, h3⟩ : True ∧ l + p ≤ c ∧ c ≤ 9223372036854775807 ∧ Rd wr Av (l + p) (C ++ List.replicate p 0) := by
              obtain ⟨A', c', e1, h1, h2, h3⟩ := own_rd O2.out (hcb.append (fun x hx => by have := List.eq_of_mem_replicate hx; omega))
              injection e1 with e1 e2 e3
              subst e1 e3
              exact ⟨trivial, h1, h2, h3⟩
            have PF := Kept.mk (PE.out _ _ _ _ h1 h2 h3 B2.out h5)
            rw [hy] at PF ⊢
            generalize y % 64 = z at *
            clear PE h3 h5
            go_wp2
            go_ret2
            exact PF.out
  · rw [if_neg he] at hnt HRT
    have PE : Kept (∀ w', Below w.heap.size w w' → RPutNew f w (.returned (.tuple #[.slice none 0 0, .int .i64 (errF f)])) w') := ⟨fun w' h => ⟨none, 0, 0, rfl, Nat.le_refl _, by unfold maxLen; omega, by simp only [putF]; rw [if_neg he]; exact Rd.nil_, h, fun _ _ => .inl rfl⟩⟩
    have PF := Kept.mk (PE.out _ BT.out)
    have he2 : (errF f == 0) = false := by simpa using he
    generalize errF f = er at *
    clear PE
    go_wp2
    go_ret2
    exact PF.out
theorem rput_any (f : FV) (A : Option Addr) (n cap : Nat) (w : World) (hr : Rd w A n f.body) :
    Calls Tryz.prog 25 #[.agg #[.int .i64 f.kind, .int .i64 f.gen, .int .i64 f.seq, .slice A n cap]] w (RPutPost f w) :=
  (rput_new f A n cap w hr).mono fun _ _ ⟨A', n', c', h1, h2, h3, h4, h5, _⟩ => ⟨A', n', c', h1, h2, h3, h4, h5⟩
end Go.Proofs.YtjlhnhkjgcbnnaaGreat.Frame

/-
  slices.Sorted(maps.Keys(m)) over a map of ints to sectors, by the library's contracts: what they ask of the program, laid out by name; what comes: what is pending, rising.
-/




namespace Go.Proofs.YtjlhnhkjgcbnnaaGreat.Disk
open Go.RowKit Go.Proofs.YtjlhnhkjgcbnnaaGreat.Sha Go.Maps Go.Sort Go.Shelf

theorem bears_of {P : Program} {f : FuncId} {B G : Func} (hf : P.funcs[f]? = some G) (hn : (G.name == "runtime.NumGoroutine") = false) (h : G = { B with name := G.name }) : Bears P f B := ⟨G.name, hn, hf.trans (congrArg some h)⟩
--LAYINGS
def keys_ren : Ren :=
  { f := fun x => match x with
      | 7 => 45
      | 10 => 65
      | n => n
    t := fun x => match x with
      | 23 => 81
      | 26 => 3
      | 3 => 107
      | 28 => 104
      | 0 => 0
      | 27 => 103
      | 33 => 109
      | 4 => 4
      | n => n
    g := fun n => n }
theorem keys_lay : SlLaysZI.n7 Tryz.prog keys_ren :=
  { mixed := by kernel_rfl,
     f7 := bears_of Tryz.func45 (by kernel_rfl) (by kernel_rfl),
     f10 := bears_of Tryz.func65 (by kernel_rfl) (by kernel_rfl),
     t0 := Tryz.underlying0,
     a0 := Tryz.isAgg0,
     z0 := Tryz.sizeOf0,
     v0 := Tryz.zeroValue0,
     t4 := Tryz.underlying4,
     a4 := Tryz.isAgg4,
     z4 := Tryz.sizeOf4,
     v4 := Tryz.zeroValue4,
     t23 := Tryz.underlying81,
     a23 := Tryz.isAgg81,
     z23 := Tryz.sizeOf81,
     v23 := Tryz.zeroValue81,
     t26 := Tryz.underlying3,
     a26 := Tryz.isAgg3,
     z26 := Tryz.sizeOf3,
     v26 := Tryz.zeroValue3,
     t27 := Tryz.underlying103,
     a27 := Tryz.isAgg103,
     z27 := Tryz.sizeOf103,
     v27 := Tryz.zeroValue103,
     t28 := Tryz.underlying104,
     a28 := Tryz.isAgg104,
     z28 := Tryz.sizeOf104,
     v28 := Tryz.zeroValue104,
     t33 := Tryz.underlying109,
     a33 := Tryz.isAgg109,
     z33 := Tryz.sizeOf109,
     v33 := Tryz.zeroValue109 }
def sorted_ren : Ren :=
  { f := fun x => match x with
      | 6 => 44
      | 8 => 63
      | 9 => 64
      | 11 => 83
      | 13 => 85
      | 12 => 84
      | 23 => 113
      | 24 => 114
      | 14 => 104
      | 15 => 105
      | 16 => 106
      | 17 => 107
      | 18 => 108
      | 19 => 109
      | 20 => 110
      | 21 => 111
      | 22 => 112
      | 25 => 125
      | 26 => 126
      | 27 => 127
      | 28 => 128
      | 29 => 129
      | 30 => 130
      | 31 => 135
      | n => n
    t := fun x => match x with
      | 26 => 3
      | 28 => 104
      | 24 => 48
      | 0 => 0
      | 3 => 3
      | 37 => 138
      | 48 => 67
      | 50 => 137
      | 4 => 4
      | 40 => 163
      | 39 => 162
      | 45 => 167
      | 5 => 5
      | 9 => 9
      | 51 => 179
      | 55 => 183
      | 57 => 190
      | 58 => 191
      | 33 => 109
      | n => n
    g := fun n => n }
theorem sorted_lay : SlLaysZI.n6 Tryz.prog sorted_ren :=
  { mixed := by kernel_rfl,
     f6 := bears_of Tryz.func44 (by kernel_rfl) (by kernel_rfl),
     f8 := bears_of Tryz.func63 (by kernel_rfl) (by kernel_rfl),
     f11 := bears_of Tryz.func83 (by kernel_rfl) (by kernel_rfl),
     t0 := Tryz.underlying0,
     a0 := Tryz.isAgg0,
     z0 := Tryz.sizeOf0,
     v0 := Tryz.zeroValue0,
     t24 := Tryz.underlying48,
     a24 := Tryz.isAgg48,
     z24 := Tryz.sizeOf48,
     v24 := Tryz.zeroValue48,
     t26 := Tryz.underlying3,
     a26 := Tryz.isAgg3,
     z26 := Tryz.sizeOf3,
     v26 := Tryz.zeroValue3,
     t28 := Tryz.underlying104,
     a28 := Tryz.isAgg104,
     z28 := Tryz.sizeOf104,
     v28 := Tryz.zeroValue104,
     i26 := by kernel_rfl }
def sort_ren : Ren :=
  { f := fun x => match x with
      | 5 => 64
      | 8 => 85
      | 7 => 84
      | 19 => 113
      | 20 => 114
      | 10 => 104
      | 11 => 105
      | 12 => 106
      | 13 => 107
      | 14 => 108
      | 15 => 109
      | 16 => 110
      | 17 => 111
      | 18 => 112
      | 30 => 125
      | 31 => 126
      | 32 => 127
      | 33 => 128
      | 34 => 129
      | 35 => 130
      | 40 => 135
      | n => n
    t := fun x => match x with
      | 23 => 48
      | 25 => 3
      | 3 => 3
      | 32 => 138
      | 22 => 48
      | 0 => 0
      | 44 => 67
      | 46 => 137
      | 4 => 4
      | 36 => 163
      | 35 => 162
      | 41 => 167
      | 5 => 5
      | 9 => 9
      | 53 => 179
      | 57 => 183
      | 63 => 190
      | 64 => 191
      | n => n
    g := fun n => n }
theorem sort_lay : SlLaysM.n5 Tryz.prog sort_ren :=
  { mixed := by kernel_rfl,
     f5 := bears_of Tryz.func64 (by kernel_rfl) (by kernel_rfl),
     f7 := bears_of Tryz.func84 (by kernel_rfl) (by kernel_rfl),
     f8 := Tryz.func85.trans (congrArg some (by kernel_rfl)),
     f10 := bears_of Tryz.func104 (by kernel_rfl) (by kernel_rfl),
     f11 := bears_of Tryz.func105 (by kernel_rfl) (by kernel_rfl),
     f12 := bears_of Tryz.func106 (by kernel_rfl) (by kernel_rfl),
     f13 := bears_of Tryz.func107 (by kernel_rfl) (by kernel_rfl),
     f14 := bears_of Tryz.func108 (by kernel_rfl) (by kernel_rfl),
     f15 := bears_of Tryz.func109 (by kernel_rfl) (by kernel_rfl),
     f16 := bears_of Tryz.func110 (by kernel_rfl) (by kernel_rfl),
     f17 := bears_of Tryz.func111 (by kernel_rfl) (by kernel_rfl),
     f18 := bears_of Tryz.func112 (by kernel_rfl) (by kernel_rfl),
     f19 := Tryz.func113.trans (congrArg some (by kernel_rfl)),
     f20 := Tryz.func114.trans (congrArg some (by kernel_rfl)),
     f30 := bears_of Tryz.func125 (by kernel_rfl) (by kernel_rfl),
     f31 := Tryz.func126.trans (congrArg some (by kernel_rfl)),
     f32 := Tryz.func127.trans (congrArg some (by kernel_rfl)),
     f33 := bears_of Tryz.func128 (by kernel_rfl) (by kernel_rfl),
     f34 := bears_of Tryz.func129 (by kernel_rfl) (by kernel_rfl),
     f35 := bears_of Tryz.func130 (by kernel_rfl) (by kernel_rfl),
     f40 := bears_of Tryz.func135 (by kernel_rfl) (by kernel_rfl),
     t0 := Tryz.underlying0,
     a0 := Tryz.isAgg0,
     z0 := Tryz.sizeOf0,
     v0 := Tryz.zeroValue0,
     t3 := Tryz.underlying3,
     a3 := Tryz.isAgg3,
     z3 := Tryz.sizeOf3,
     v3 := Tryz.zeroValue3,
     t4 := Tryz.underlying4,
     a4 := Tryz.isAgg4,
     z4 := Tryz.sizeOf4,
     v4 := Tryz.zeroValue4,
     t5 := Tryz.underlying5,
     a5 := Tryz.isAgg5,
     z5 := Tryz.sizeOf5,
     v5 := Tryz.zeroValue5,
     t9 := Tryz.underlying9,
     a9 := Tryz.isAgg9,
     z9 := Tryz.sizeOf9,
     v9 := Tryz.zeroValue9,
     t22 := Tryz.underlying48,
     a22 := Tryz.isAgg48,
     z22 := Tryz.sizeOf48,
     v22 := Tryz.zeroValue48,
     t23 := Tryz.underlying48,
     a23 := Tryz.isAgg48,
     z23 := Tryz.sizeOf48,
     v23 := Tryz.zeroValue48,
     t25 := Tryz.underlying3,
     a25 := Tryz.isAgg3,
     z25 := Tryz.sizeOf3,
     v25 := Tryz.zeroValue3,
     t32 := Tryz.underlying138,
     a32 := Tryz.isAgg138,
     z32 := Tryz.sizeOf138,
     v32 := Tryz.zeroValue138,
     t35 := Tryz.underlying162,
     a35 := Tryz.isAgg162,
     z35 := Tryz.sizeOf162,
     v35 := Tryz.zeroValue162,
     t36 := Tryz.underlying163,
     a36 := Tryz.isAgg163,
     z36 := Tryz.sizeOf163,
     v36 := Tryz.zeroValue163,
     t41 := Tryz.underlying167,
     a41 := Tryz.isAgg167,
     z41 := Tryz.sizeOf167,
     v41 := Tryz.zeroValue167,
     t44 := Tryz.underlying67,
     a44 := Tryz.isAgg67,
     z44 := Tryz.sizeOf67,
     v44 := Tryz.zeroValue67,
     t46 := Tryz.underlying137,
     a46 := Tryz.isAgg137,
     z46 := Tryz.sizeOf137,
     v46 := Tryz.zeroValue137,
     t53 := Tryz.underlying179,
     a53 := Tryz.isAgg179,
     z53 := Tryz.sizeOf179,
     v53 := Tryz.zeroValue179,
     t57 := Tryz.underlying183,
     a57 := Tryz.isAgg183,
     z57 := Tryz.sizeOf183,
     v57 := Tryz.zeroValue183,
     t63 := Tryz.underlying190,
     a63 := Tryz.isAgg190,
     z63 := Tryz.sizeOf190,
     v63 := Tryz.zeroValue190,
     t64 := Tryz.underlying191,
     a64 := Tryz.isAgg191,
     z64 := Tryz.sizeOf191,
     v64 := Tryz.zeroValue191 }
--END
theorem sorts_in (m : Nat) : AnyZI.SortsIn Tryz.prog sorted_ren Fence.wide m :=
  ⟨fun blk off cap ss W hH hblk hsz => callsIn_wide.2 (AnyM.slices_Sort_int sort_lay blk off cap ss W hH hblk hsz),
   fun p cap W => callsIn_wide.2 (AnyM.slices_Sort_int_none sort_lay p cap W)⟩
theorem keys_any (g : Nat) (w : World) : Calls Tryz.prog 45 #[.map (some g)] w fun e w' => e = .returned (.func (.func 65) #[] #[.pointer (some ⟨w.heap.size, 0, none⟩)]) ∧ w' = w.alloc (.cells #[.map (some g)] 81) :=
  (callsIn_wide (n := 6)).1 (AnyZI.keys_in keys_lay Fence.wide 6 trivial rfl (some g) w)
set_option maxHeartbeats 1000000 in
theorem sorted_any (w : World) (g Bm : Nat) (p : List Nat) (L : List (List Int)) (h : Mp w g p L) (hr : p.Pairwise (· < ·)) (hl : p.length ≤ 9000) (hc : w.cell? ⟨Bm, 0, none⟩ = some (.map (some g))) :
    Calls Tryz.prog 44 #[.func (.func 65) #[] #[.pointer (some ⟨Bm, 0, none⟩)]] w fun e w' => ∃ v, e = .returned v ∧ w'.ownsRow w.heap.size 3 1 v p.length (ints .i64 (p.map fun (i : Nat) => (i : Int))) ∧ Below w.heap.size w w' := by
  obtain ⟨D, own, hnd, h3, h4, h5, h6⟩ := h
  have hseq : SeqGives Fence.wide 4 Tryz.prog 65 #[.pointer (some ⟨Bm, 0, none⟩)] encZ (fun ss => ss.Perm (intKeys D)) (Maps.size D) w :=
    AnyZI.keys_gives (ρ := keys_ren) { keys_lay with } Fence.wide _ trivial rfl (by omega) Bm g _ D _ (World.block_lt_of_cell? _ _ hc) hc own
  have cS := AnyZI.sorted_in sorted_lay Fence.wide 7 trivial trivial trivial trivial rfl (by omega) (sorts_in _) (enters_of Tryz.func64 (by kernel_rfl) rfl) 65 #[.pointer (some ⟨Bm, 0, none⟩)] trivial (enters_of Tryz.func65 (by kernel_rfl) rfl) _ _ (by unfold maxLen; omega) (by omega) _ hseq
  refine ((callsIn_wide (n := 7)).1 cS).mono ?_
  rintro e w' ⟨v, ss, rfl, hS, hrow, -, hb⟩
  have hk := mp_keys own hr h3 h4 hS
  have hlen : ss.length = p.length := by
    have := congrArg List.length hk
    simpa using this
  rw [hk, hlen] at hrow
  exact ⟨v, rfl, hrow, hb⟩
end Go.Proofs.YtjlhnhkjgcbnnaaGreat.Disk

/-
  Rows of whole numbers that are read.
-/

namespace Go.Proofs.YtjlhnhkjgcbnnaaGreat.Sha
open Go.RowKit

/-- a slice of ints in memory, to be read: they are xs -/
def Ri (w : World) (A : Option Addr) (n : Nat) (xs : List Int) : Prop :=
  xs.length = n ∧ (n = 0 ∨ ∃ b o, A = some ⟨b, o, none⟩ ∧ ∀ i, i < n → w.cell? ⟨b, o + i, none⟩ = some (.int .i64 (at_ xs i)))
theorem Ri.bar {w w' : World} {A : Option Addr} {n : Nat} {xs : List Int} {l : List Nat} (r : Ri w A n xs) (b : Bar l w w') (hl : ∀ x ∈ l, w.heap.size ≤ x ∨ ∀ o, A ≠ some ⟨x, o, none⟩) : Ri w' A n xs := by
  obtain ⟨h1, h3⟩ := r
  refine ⟨h1, h3.imp id ?_⟩
  rintro ⟨bb, o, rfl, hc⟩
  refine ⟨bb, o, rfl, fun i hi => ?_⟩
  have hlt : bb < w.heap.size := World.block_lt_of_cell? _ _ (hc i hi)
  rw [← hc i hi]
  refine World.cell?_of_block (w := w) (b.block bb hlt (fun hm => ?_))
  rcases hl bb hm with h | h
  · omega
  · exact h o rfl
theorem Ri.below {w w' : World} {A : Option Addr} {n : Nat} {xs : List Int} (r : Ri w A n xs) (b : Below w.heap.size w w') : Ri w' A n xs := r.bar (l := []) (barOf b []) (by simp)
/-- behind changes from B on a row below B is as it was -/
theorem Ri.upto {w w' : World} {A : Option Addr} {n : Nat} {xs : List Int} {B : Nat} (r : Ri w A n xs) (b : Below B w w') (hB : n = 0 ∨ ∀ g o, A = some ⟨g, o, none⟩ → g < B) : Ri w' A n xs := by
  obtain ⟨h1, h3⟩ := r
  refine ⟨h1, ?_⟩
  rcases hB with h | h
  · exact .inl h
  · refine h3.imp id ?_
    rintro ⟨bb, o, rfl, hc⟩
    exact ⟨bb, o, rfl, fun i hi => by rw [← hc i hi]; exact World.cell?_of_block (w := w) (b.block bb (h bb o rfl))⟩
theorem Ri.blk {w : World} {M n : Nat} {T : TypeId} {xs : List Int} (h : Blk w M T (arr .i64 xs)) (hn : xs.length = n) : Ri w (some ⟨M, 0, none⟩) n xs :=
  ⟨hn, .inr ⟨M, 0, rfl, fun i hi => by rw [Nat.zero_add]; exact h.at_ i (by omega)⟩⟩
/-- a row of the law's argument -/
theorem ri_of_row {W : World} {a : Option Addr} {len cap : Nat} {zs : List Int} (h : (a = none ∧ len = 0 ∧ cap = 0 ∧ zs = []) ∨ ∃ x, a = some x ∧ len ≤ cap ∧ cap ≤ maxLen ∧ zs.length = cap ∧ (∀ i, i < zs.length → W.cell? (x.add i) = some (.int .i64 (zs.getD i 0))) ∧ ∀ n ∈ zs, (Lit.int .i64 n).wf = true) :
    Ri W a len (zs.take len) := by
  rcases h with ⟨rfl, rfl, rfl, rfl⟩ | ⟨x, rfl, hl, hm, hz, hcell, -⟩
  · exact ⟨rfl, .inl rfl⟩
  · refine ⟨by simp; omega, ?_⟩
    by_cases h0 : len = 0
    · exact .inl h0
    · refine .inr ?_
      obtain ⟨b, off, spot⟩ := x
      have hspot : spot = none := by
        have hc := hcell 0 (by omega)
        simpa [Addr.add] using World.cell?_spot hc
      subst hspot
      refine ⟨b, off, rfl, fun i hi => ?_⟩
      have := hcell i (by omega)
      have e : (⟨b, off, none⟩ : Addr).add i = ⟨b, off + i, none⟩ := by cases i <;> simp [Addr.add]
      rw [e] at this
      rw [this]
      unfold at_
      simp [List.getD_eq_getElem?_getD, hi]
theorem row_cap64 {W : World} {a : Option Addr} {len cap : Nat} {zs : List Int} (h : (a = none ∧ len = 0 ∧ cap = 0 ∧ zs = []) ∨ ∃ x, a = some x ∧ len ≤ cap ∧ cap ≤ maxLen ∧ zs.length = cap ∧ (∀ i, i < zs.length → W.cell? (x.add i) = some (.int .i64 (zs.getD i 0))) ∧ ∀ n ∈ zs, (Lit.int .i64 n).wf = true) :
    len ≤ cap ∧ cap ≤ 9223372036854775807 := by
  rcases h with ⟨-, rfl, rfl, -⟩ | ⟨x, -, hl, hm, -⟩
  · omega
  · unfold maxLen at hm; omega
theorem info_int : (Tryz.prog.info? 3).map (fun i => (i.zero, i.size, i.bytes)) = some (some (.int .i64 0), 1, 8) := by kernel_rfl
/-- make([]int, n): a new row of noughts -/
theorem make_ints (w : World) (n : Nat) (hn : n ≤ 400) : ∃ w', (Instr.makeSlice 48 (.int .i64 (n : Int)) (.int .i64 (n : Int))).run Tryz.prog w = .ok (.slice (some ⟨w.heap.size, 0, none⟩) n n) w' ∧ Blk w' w.heap.size 3 (arr .i64 (List.replicate n 0)) ∧ Below w.heap.size w w' := by
  obtain ⟨iu, hi, hz0, hz1, hz2⟩ := info_parts info_int
  obtain ⟨w', hm, own, gr⟩ := run_makeSlice_full (P := Tryz.prog) w w.heap.size 48 3 iu _ 1 Tryz.underlying48 hi hz0 hz1 .i64 .i64 n (by omega) (by rw [hz2]; omega) (by unfold maxLen; omega) (Nat.le_refl _)
  refine ⟨w', hm, ?_, ⟨gr.os, gr.tape, gr.output, gr.size, fun k hk => gr.block k hk (by simp)⟩⟩
  have e : (madeCells (Value.int .i64 0).cells (n * 1)).toList = ints .i64 (List.replicate n 0) := by
    rw [show (Value.int .i64 0).cells = #[.int .i64 0] from rfl, toList_madeCells_one, Nat.mul_one]
    simp [ints]
  rw [e] at own
  rcases own.2 with ⟨h0, -⟩ | ⟨g, cap, cur, hv, -, hh, h1, -, hs, ht⟩
  · cases h0
  · have hv2 : w.heap.size = g ∧ n = cap := by
      have := hv
      simp only [Value.slice.injEq, Option.some.injEq, Addr.mk.injEq] at this
      omega
    obtain ⟨hg, rfl⟩ := hv2
    rw [hg]
    have : cur = arr .i64 (List.replicate n 0) := by
      apply Array.toList_inj.1
      rw [List.take_of_length_le (by simp; omega)] at ht
      rw [ht]
      rfl
    rw [← this]
    exact hh
theorem make8 (w : World) : ∃ w', (Instr.makeSlice 48 (.int .i64 8) (.int .i64 8)).run Tryz.prog w = .ok (.slice (some ⟨w.heap.size, 0, none⟩) 8 8) w' ∧ Blk w' w.heap.size 3 (arr .i64 (List.replicate 8 0)) ∧ Below w.heap.size w w' := make_ints w 8 (by omega)
end Go.Proofs.YtjlhnhkjgcbnnaaGreat.Sha

/-
  Rows of whole numbers: pieces of them, appends of them at a step of a region.
-/



namespace Go.Proofs.YtjlhnhkjgcbnnaaGreat.Sha
open Go.RowKit

/-- at a step of a region: a row of ints that is read goes behind what the call made -/
theorem step_append_ri {P : Program} {w : World} {ops : Array Oper} {o : Oper} {a : Act} {K : Act → World → Prop} {Q : Exit → Act → World → Prop} {E : Prop} (hgd : o.guard = none) (s x : Operand) (t : TypeId)
    (ho : o.op = .call { callee := .builtin .append, args := #[s, x], argTypes := #[t, t] })
    (base : Nat) (e : TypeId) (ht : P.underlying t = some (.slice e)) (hi : (P.info? e).map (fun i => (i.zero, i.size, i.bytes)) = some (some (.int .i64 0), 1, 8))
    (v : Value) (n : Nat) (xs : List Value) (hs : a.eval s = v) (hown : w.ownsRow base e 1 v n xs)
    (A : Option Addr) (m c : Nat) (news : List Int) (hx : a.eval x = .slice A m c) (hr : Ri w A m news)
    (hsmall : n + m ≤ 4294967296) (hbase : base ≤ w.heap.size)
    (h : ∀ v' w', Kept (w'.ownsRow base e 1 v' (n + m) (xs ++ ints .i64 news)) → w.grownBy w' v.ownBlock → Below base w w' → (v'.ownBlock = v.ownBlock ∨ v'.ownBlock = some w.heap.size) → K (a.put o.dst v') w') :
    if Region.wanted o (yielded ops a.tmps) = true then Oper.wp P o a w K Q else E := by
  have hw : Region.wanted o (yielded ops a.tmps) = true := by simp [Region.wanted, hgd]
  rw [if_pos hw]
  obtain ⟨iu, hi, hz0, hz1, hz2⟩ := info_parts hi
  obtain ⟨h1, h3⟩ := hr
  cases A with
  | none =>
    have h0 : m = 0 := by
      rcases h3 with h3 | ⟨_, _, h4, _⟩
      · exact h3
      · cases h4
    subst h0
    obtain rfl : news = [] := List.eq_nil_of_length_eq_zero h1
    have hrun := run_append_nil_any (P := P) w base t o.type e iu 1 ht hi v n xs hown c
    unfold Oper.wp
    simp [execOp, ho, resolve, invoke, builtin, hs, hx, hrun, Result.andThen]
    exact h v w ⟨by simpa [ints] using hown⟩ (World.grownBy.refl _ _) (Below.refl _ _) (.inl rfl)
  | some ad =>
    have hc : ∀ j u, (ints .i64 news)[j]? = some u → w.cell? (ad.add j) = some u := by
      intro j u hj
      have hjl : j < news.length := by have := (List.getElem?_eq_some_iff.1 hj).1; rwa [ints_len] at this
      rcases h3 with h3 | ⟨b, o', h4, hc⟩
      · omega
      · injection h4 with h4
        subst h4
        rw [Sha.ints_at _ _ _ hjl] at hj
        rw [← hj, show (⟨b, o', none⟩ : Addr).add j = ⟨b, o' + j, none⟩ by cases j <;> simp [Addr.add]]
        exact hc j (by omega)
    obtain ⟨v', w', hr, h2, h3, -, h5⟩ := run_append_own_at (P := P) w base t o.type e iu (.int .i64 0) 1 8 ht hi hz0 hz1 hz2 rfl (by omega) v n xs hown ad m c (ints .i64 news) (by rw [ints_len, h1]; omega) hc (ints_one _ _) (by unfold maxLen; omega) (by omega) hbase
    unfold Oper.wp execOp
    simp only [ho, resolve, invoke, builtin, Sem.run_bind, Sem.run_pure, Result.andThen_ok, List.map_toArray, List.map_cons, List.map_nil, hs, hx, hr]
    exact h v' w' ⟨h2⟩ h3 (own_below hown h3 hbase) h5
theorem Ri.piece {w : World} {A : Option Addr} {n c : Nat} {xs : List Int} (r : Ri w A n xs) (hc : n ≤ c) (l h : Nat) (h1 : l ≤ h) (h2 : h ≤ n) :
    Ri w (if c = l then A else A.map (·.add (l * 1))) (h - l) ((xs.take h).drop l) := by
  obtain ⟨r1, r3⟩ := r
  have e1 : ((xs.take h).drop l).length = h - l := by simp [List.length_drop, List.length_take, r1]; omega
  by_cases h0 : h - l = 0
  · rw [h0] at e1 ⊢
    exact ⟨e1, .inl rfl⟩
  · have hcl : ¬ c = l := by omega
    rw [if_neg hcl, Nat.mul_one]
    obtain ⟨b, o, rfl, hcell⟩ := r3.resolve_left (by omega)
    have ea : (⟨b, o, none⟩ : Addr).add l = ⟨b, o + l, none⟩ := by cases l <;> simp [Addr.add]
    simp only [Option.map_some, ea]
    refine ⟨e1, .inr ⟨b, o + l, rfl, fun i hi => ?_⟩⟩
    have := hcell (l + i) (by omega)
    rw [Nat.add_assoc, this, at_drop, at_take (by omega)]
theorem elem_int : Tryz.prog.elem 48 = 3 := by kernel_rfl
theorem und_int : Tryz.prog.underlying 48 = some (.slice (Tryz.prog.elem 48)) := by rw [elem_int]; exact Tryz.underlying48
theorem size_int (w : World) : (sizeOf (Tryz.prog.elem 48)).run Tryz.prog w = .ok 1 w := by
  obtain ⟨iu, hi, _, hz1, _⟩ := info_parts info_int
  rw [elem_int]
  simp [sizeOf, typeInfo, hi, hz1]
theorem islice_l {w : World} {A : Option Addr} {n c : Nat} {xs : List Int} (r : Ri w A n xs) (hc : n ≤ c) (l : Nat) (h1 : l ≤ n) (li : Int) (e1 : li = l) :
    ∃ A', (∀ w', (Instr.slice 48 (.slice A n c) (some (.int .i64 li)) none none).run Tryz.prog w' = .ok (.slice A' (n - l) (c - l)) w') ∧ Ri w A' (n - l) (xs.drop l) := by
  have hp := r.piece hc l n h1 (Nat.le_refl _)
  rw [show xs.take n = xs from List.take_of_length_le (by rw [r.1]; exact Nat.le_refl _)] at hp
  refine ⟨_, fun w' => ?_, hp⟩
  subst e1
  rw [run_slice_l w' 48 A n c und_int .i64 l (by omega) (by omega), size_int]
  rfl
theorem islice_h {w : World} {A : Option Addr} {n c : Nat} {xs : List Int} (r : Ri w A n xs) (hc : n ≤ c) (h : Nat) (h2 : h ≤ n) (hi : Int) (e2 : hi = h) :
    ∃ A', (∀ w', (Instr.slice 48 (.slice A n c) none (some (.int .i64 hi)) none).run Tryz.prog w' = .ok (.slice A' h c) w') ∧ Ri w A' h (xs.take h) := by
  have hp := r.piece hc 0 h (Nat.zero_le _) h2
  rw [List.drop_zero, Nat.sub_zero] at hp
  refine ⟨_, fun w' => ?_, hp⟩
  subst e2
  rw [run_slice_h w' 48 A n c und_int .i64 h (by omega) (by omega), size_int]
  rfl
theorem own_ri {w : World} {b : Nat} {A : Option Addr} {n c : Nat} {xs : List Int} (h : w.ownsRow b 3 1 (.slice A n c) n (ints .i64 xs)) : n ≤ c ∧ c ≤ 9223372036854775807 ∧ Ri w A n xs := by
  have hl : xs.length = n := by have := h.1; rw [ints_len] at this; omega
  have h0 := h
  rcases h.2 with ⟨hv, h1⟩ | ⟨g, cap, cur, hv, -, -, h1, h2, -⟩
  · injection hv with hA hn hc
    subst hA hc
    exact ⟨by omega, by omega, hl, .inl (by omega)⟩
  · injection hv with hA hn hc
    subst hA hc
    unfold maxLen at h2
    refine ⟨h1, by omega, hl, .inr ⟨g, 0, rfl, fun i hi => ?_⟩⟩
    rw [Nat.zero_add, World.ownsRow.cellAt h0 i (by omega)]
    exact Sha.ints_at _ _ _ (by omega)
theorem own_base {w : World} {b size : Nat} {e : TypeId} {v : Value} {n : Nat} {xs : List Value} (h : w.ownsRow b e size v n xs) : w.ownsRow 0 e size v n xs := by
  refine ⟨h.1, h.2.imp id ?_⟩
  rintro ⟨g, cap, cur, hv, _, r⟩
  exact ⟨g, cap, cur, hv, Nat.zero_le _, r⟩
end Go.Proofs.YtjlhnhkjgcbnnaaGreat.Sha

/-
  Package disk: Crash.
-/






namespace Go.Proofs.YtjlhnhkjgcbnnaaGreat.Disk
open Go.RowKit Go.Proofs.YtjlhnhkjgcbnnaaGreat.Sha

theorem at_nats (p : List Nat) (k : Nat) (h : k < p.length) : at_ (p.map fun (i : Nat) => (i : Int)) k = (p.getD k 0 : Nat) := by
  simp [at_, List.getD_eq_getElem?_getD, h]
/-- what Crash goes through, sector by sector: the first lists of n sectors each -/
structure Walk (n : Nat) (s : DS) (p : List Nat) (bs : List Bool) (Z : List (List Int) × List (List Int)) (k : Nat) (P L : List (List Int)) : Prop where
  a : P.length = n
  b : L.length = n
  secs : ∀ i, i < n → Sec (rowOf P i) ∧ Sec (rowOf L i)
  go : crashGo bs k (p.drop k) (P, L) = Z
  rest : ∀ q, k ≤ q → q < p.length → rowOf L (p.getD q 0) = rowOf s.last (p.getD q 0)
theorem getD_lt {p : List Nat} {i j : Nat} (hr : p.Pairwise (· < ·)) (hij : i < j) (hj : j < p.length) : p.getD i 0 < p.getD j 0 := by
  rw [List.pairwise_iff_getElem] at hr
  have := hr i j (by omega) hj hij
  simpa [List.getD_eq_getElem?_getD, hj, show i < p.length by omega] using this
theorem Walk.step {n : Nat} {s : DS} {p : List Nat} {bs : List Bool} {Z : List (List Int) × List (List Int)} {k : Nat} {P L : List (List Int)} (h : Walk n s p bs Z k P L) (hk : k < p.length) (hr : p.Pairwise (· < ·)) (hp : ∀ i ∈ p, i < n) :
    (bs.getD k false = true → Walk n s p bs Z (k + 1) P (L.set (p.getD k 0) (rowOf P (p.getD k 0)))) ∧ (bs.getD k false ≠ true → Walk n s p bs Z (k + 1) (P.set (p.getD k 0) (rowOf L (p.getD k 0))) L) := by
  have hin : p.getD k 0 < n := hp _ (by rw [List.getD_eq_getElem?_getD, List.getElem?_eq_getElem hk]; exact List.getElem_mem hk)
  have hdr : p.drop k = p.getD k 0 :: p.drop (k + 1) := by
    rw [List.drop_eq_getElem_cons hk]
    congr 1
    simp [hk]
  have hgo := h.go
  rw [hdr, crashGo_cons] at hgo
  generalize hi : p.getD k 0 = i at *
  constructor
  · intro hb
    refine ⟨h.a, by simpa using h.b, fun j hj => ?_, by rw [← hgo]; unfold crash1; rw [if_pos hb], fun q hq hql => ?_⟩
    · refine ⟨(h.secs j hj).1, ?_⟩
      rw [rowOf_set _ _ _ _ (by rw [h.b]; exact hj)]
      split
      · rename_i e; subst e; exact (h.secs i hj).1
      · exact (h.secs j hj).2
    · have hlt := getD_lt hr (show k < q by omega) hql
      have hqn : p.getD q 0 < n := hp _ (by rw [List.getD_eq_getElem?_getD, List.getElem?_eq_getElem hql]; exact List.getElem_mem hql)
      rw [rowOf_set _ _ _ _ (by rw [h.b]; exact hqn), if_neg (by omega)]
      exact h.rest q (by omega) hql
  · intro hb
    refine ⟨by simpa using h.a, h.b, fun j hj => ?_, by rw [← hgo]; unfold crash1; rw [if_neg hb], fun q hq hql => h.rest q (by omega) hql⟩
    refine ⟨?_, (h.secs j hj).2⟩
    rw [rowOf_set _ _ _ _ (by rw [h.a]; exact hj)]
    split
    · rename_i e; subst e; exact (h.secs i hj).2
    · exact (h.secs j hj).1
set_option maxRecDepth 100000 in
set_option maxHeartbeats 2000000 in
theorem ccrash_any {w : World} {F : List Nat} {d n : Nat} {s : DS} {A : Option Addr} {m c : Nat} {bs : List Bool} (h : Dk w F d n s) (r : Rb w A m bs) (hO : Off A m F) :
    Calls Tryz.prog 16 #[.pointer (some ⟨d, 0, none⟩), .slice A m c] w fun e w' => e = .returned (.tuple #[]) ∧ ∃ F', Dk w' F' d n (crashD s bs) ∧ Fp F F' w w' := by
  have hwf := h.1
  have WC := Kept.mk (wf_crash hwf bs)
  have hpl := cpend_len hwf
  have hn2 := hwf.n2
  have HR := Kept.mk hwf.rise
  have HP := Kept.mk hwf.pend
  obtain ⟨h0, gw, cw, gm, f, h1, h2, h3, h4, hF⟩ := h
  obtain ⟨p, hpp⟩ : ∃ p, s.pend = p := ⟨_, rfl⟩
  have W0 : Kept (Walk n s p bs (crashGo bs 0 s.pend (s.now, s.last)) 0 s.now s.last) := ⟨h0.now, h0.last, h0.secs, by rw [hpp]; rfl, fun _ _ _ => rfl⟩
  rw [hpp] at h3 hpl HR HP
  have FIN : Kept (∀ P L, Walk n s p bs (crashGo bs 0 s.pend (s.now, s.last)) p.length P L → crashD s bs = ⟨P, L, [], -1, false⟩) := ⟨fun P L hw => by
    have := hw.go
    rw [List.drop_length] at this
    unfold crashD
    rw [← this]
    rfl⟩
  generalize crashGo bs 0 s.pend (s.now, s.last) = Z at *
  have c1 := (h1.cell 1).trans (dk_1 _ _ _ _)
  obtain ⟨N, hN⟩ : ∃ N, w.heap.size = N := ⟨_, rfl⟩
  have a1 : Below N w (w.alloc (.cells #[.map (some gm)] 81)) := (Below.refl _ _).alloc (by omega) _
  have hbm : (w.alloc (.cells #[.map (some gm)] 81)).cell? ⟨N, 0, none⟩ = some (.map (some gm)) := by
    rw [(Blk.new_at w 81 #[.map (some gm)] N hN.symm).cell 0]; rfl
  have CK := Kept.mk (keys_any gm w)
  have a1b : Bar [] w (w.alloc (.cells #[.map (some gm)] 81)) := (Bar.refl [] w).alloc _
  have CS := Kept.mk (sorted_any _ gm N p s.last (h3.bar a1b (by simp)) HR.out (by omega) hbm)
  have n1 : gw ≠ d := by obtain ⟨cs', k', -⟩ := h2; exact blk_ne k' h1 (by decide)
  have n2 : gm ≠ gw := by obtain ⟨cs', k', -⟩ := h2; exact h3.ne k'
  have n3 : gm ≠ d := h3.ne h1
  have GL := Kept.mk h2.lt
  have NE := Kept.mk (And.intro n1 (And.intro n2 n3))
  have H1 := Kept.mk h1; have H2 := Kept.mk h2; have H3 := Kept.mk h3; have RB := Kept.mk r; have OF := Kept.mk hO; have HF := Kept.mk hF
  have A1 := Kept.mk a1b
  have HM := Kept.mk r.1
  have HN := Kept.mk hN
  clear h0 h1 h2 h3 h4 n1 n2 n3 r hO hF a1 hbm a1b hwf hpp hN
  go_enter Tryz.func16, Tryz.ntmps16
  go_wp2_with fail
  refine CK.out.mono ?_
  rintro e w' ⟨rfl, rfl⟩
  rw [HN.out]
  clear CK
  generalize w.alloc (.cells #[.map (some gm)] 81) = w1 at *
  go_wp2_with fail
  refine CS.out.mono ?_
  rintro e w2 ⟨v, rfl, own, b2⟩
  have B02 : Kept (Bar [] w w2) := ⟨A1.out.trans (barOf b2 []) (by simp)⟩
  obtain ⟨V, cp, rfl⟩ := own_shape own
  obtain ⟨-, -, ri⟩ := own_ri own
  have RI := Kept.mk ri
  replace H1 := Kept.mk (H1.out.bar B02.out (by simp))
  replace H2 := Kept.mk (H2.out.bar B02.out (by simp))
  replace H3 := Kept.mk (H3.out.bar B02.out (by simp))
  replace RB := Kept.mk (RB.out.bar B02.out (by simp))
  have VN : Kept (∀ o, V ≠ some ⟨gw, o, none⟩) := ⟨fun o ho => by
    subst ho
    rcases own.2 with ⟨hv, -⟩ | ⟨g, cap, cur, hv, hg, -⟩
    · cases hv
    · injection hv with hv; injection hv with hv; injection hv with hv
      have := GL.out; have := A1.out.size; omega⟩
  have AN : Kept (∀ o, m ≠ 0 → A ≠ some ⟨gw, o, none⟩) := ⟨fun o hm ho => by
    subst ho
    rcases OF.out with h | ⟨g, o', h, hg⟩
    · exact hm h
    · injection h with h; injection h with h
      subst h
      exact hg (by rw [HF.out]; simp)⟩
  clear own b2 ri CS A1
  go_wp2
  go_loopw [13] (fun j wr => ∃ (k : Nat) (P L : List (List Int)), k ≤ p.length ∧ j = .int .i64 k ∧ Kept (Walk n s p bs Z k P L) ∧ Kept (Sx wr gw P) ∧ Kept (Bar [gw] w2 wr)) (fun j _ => p.length - (Go.RowKit.intOf j).toNat)
  case atStart => exact ⟨0, s.now, s.last, by omega, rfl, W0, H2, ⟨Bar.refl _ _⟩⟩
  case round =>
    clear W0 H2
    obtain ⟨k, P, L, hk, rfl, W, SX, BW⟩ := hrel
    have BD : Kept (Bar [gw] w2 wr.drew) := ⟨BW.out.drew⟩
    by_cases hkn : k < p.length
    · have hkn' : (k : Int) < p.length := by omega
      obtain ⟨vb, vo, rfl, hv⟩ := (RI.out.bar BW.out (by simpa using .inr VN.out)).2.resolve_left (by omega)
      have xk := hv k hkn
      rw [at_nats p k hkn] at xk
      obtain ⟨i, hi⟩ : ∃ i, p.getD k 0 = i := ⟨_, rfl⟩
      rw [hi] at xk
      have him : i ∈ p := by rw [← hi, List.getD_eq_getElem?_getD, List.getElem?_eq_getElem hkn]; exact List.getElem_mem hkn
      have hin := HP.out i him
      have hin' : (i : Int) < n := by omega
      clear hv FIN
      by_cases hkm : k < m
      · have hkm' : (k : Int) < m := by omega
        obtain ⟨ab, ao, rfl, ha⟩ := (RB.out.bar BW.out (by simpa using .inr fun o => AN.out o (by omega))).2.resolve_left (by omega)
        have xb := ha k hkm
        clear ha
        cases hkeep : bs.getD k false with
        | true =>
          rw [hkeep] at xb
          have WS := Kept.mk ((W.out.step hkn HR.out HP.out).1 hkeep)
          clear W BD
          go_wp2
          go_roundw
          case rel => exact ⟨k + 1, _, _, by omega, by go_num, WS, SX, BW⟩
          case measure => simp [Go.RowKit.intOf]; omega
        | false =>
          rw [hkeep] at xb
          have WS := (W.out.step hkn HR.out HP.out).2 (by rw [hkeep]; decide)
          have hrs := W.out.rest k (Nat.le_refl _) hkn
          rw [hi] at hrs WS
          have hL64 := (W.out.secs i hin).2.1
          rw [hrs] at WS hL64
          clear hrs
          replace WS := Kept.mk WS
          have H1d := H1.out.bar BD.out (by simpa using NE.out.1.symm)
          have H3d := H3.out.bar BD.out (by simpa using NE.out.2.1)
          have c0 := (H1d.cell 0).trans (dk_0 _ _ _ _)
          have c1 := (H1d.cell 1).trans (dk_1 _ _ _ _)
          have hlk := H3d.at_ i (by omega) him
          obtain ⟨w4, hst, k4, b4⟩ := (SX.out.bar (Bar.refl [] wr).drew (by simp)).store i (by rw [W.out.a]; exact hin) (rowOf s.last i) hL64
          have K4 := Kept.mk k4
          have B4 : Kept (Bar [gw] w2 w4) := ⟨BD.out.trans b4 (by simp)⟩
          clear H1d H3d k4 b4 W SX BW BD hL64
          generalize rowOf s.last i = x at *
          go_wp2
          refine wp_region_still_tail 12 (by kernel_rfl) (by kernel_rfl) ?_
          simp only [List.take_succ_cons, List.take_zero, List.drop_succ_cons, List.drop_zero]
          repeat still_step
          refine wpStill_nil ?_
          change wpList _ _ _ _ _ wr.drew
          go_wp2_with ((with_reducible refine selS 107 (.tmp 40) (.tmp 39) ?_); refine wpList_storeAt rfl 107 (.tmp 40) (.tmp 39) rfl _ _ rfl rfl hst ?_)
          go_roundw
          case rel => exact ⟨k + 1, _, _, by omega, by go_num, WS, K4, B4⟩
          case measure => simp [Go.RowKit.intOf]; omega
      · have hkm' : ¬ (k : Int) < m := by omega
        have hkeep : bs.getD k false = false := by
          rw [List.getD_eq_getElem?_getD, List.getElem?_eq_none (by rw [HM.out]; omega)]; rfl
        have WS := (W.out.step hkn HR.out HP.out).2 (by rw [hkeep]; decide)
        have hrs := W.out.rest k (Nat.le_refl _) hkn
        rw [hi] at hrs WS
        have hL64 := (W.out.secs i hin).2.1
        rw [hrs] at WS hL64
        clear hrs
        replace WS := Kept.mk WS
        have H1d := H1.out.bar BD.out (by simpa using NE.out.1.symm)
        have H3d := H3.out.bar BD.out (by simpa using NE.out.2.1)
        have c0 := (H1d.cell 0).trans (dk_0 _ _ _ _)
        have c1 := (H1d.cell 1).trans (dk_1 _ _ _ _)
        have hlk := H3d.at_ i (by omega) him
        obtain ⟨w4, hst, k4, b4⟩ := (SX.out.bar (Bar.refl [] wr).drew (by simp)).store i (by rw [W.out.a]; exact hin) (rowOf s.last i) hL64
        have K4 := Kept.mk k4
        have B4 : Kept (Bar [gw] w2 w4) := ⟨BD.out.trans b4 (by simp)⟩
        clear H1d H3d k4 b4 W SX BW BD hL64
        generalize rowOf s.last i = x at *
        go_wp2
        refine wp_region_still_tail 12 (by kernel_rfl) (by kernel_rfl) ?_
        simp only [List.take_succ_cons, List.take_zero, List.drop_succ_cons, List.drop_zero]
        repeat still_step
        refine wpStill_nil ?_
        change wpList _ _ _ _ _ wr.drew
        go_wp2_with ((with_reducible refine selS 107 (.tmp 40) (.tmp 39) ?_); refine wpList_storeAt rfl 107 (.tmp 40) (.tmp 39) rfl _ _ rfl rfl hst ?_)
        go_roundw
        case rel => exact ⟨k + 1, _, _, by omega, by go_num, WS, K4, B4⟩
        case measure => simp [Go.RowKit.intOf]; omega
    · have hkn' : ¬ (k : Int) < p.length := by omega
      obtain rfl : k = p.length := by omega
      have HZ := FIN.out P L W.out
      have H1d := H1.out.bar BW.out (by simpa using NE.out.1.symm)
      have H3d := H3.out.bar BW.out (by simpa using NE.out.2.1)
      have c1 := (H1d.cell 1).trans (dk_1 _ _ _ _)
      obtain ⟨w3, hcl, k3, b3⟩ := H3d.clear L
      have H1e := H1d.bar b3 (by simpa using NE.out.2.2.symm)
      have SXe := SX.out.bar b3 (by simpa using NE.out.2.1.symm)
      have c2 := (H1e.cell 2).trans (dk_2 _ _ _ _)
      have z2 := H1e.frozen 2
      have H1f := H1e.set_ 2 (.int .i64 (-1))
      have b4 : Bar [d] w3 (w3.setCell ⟨d, 2, none⟩ (.int .i64 (-1))) := (Bar.refl _ _).setCell (by simp) _
      have CB := Kept.mk (bstore_any ⟨d, 3, none⟩ false _ _ (H1f.cell 3) (H1f.frozen 3))
      have RES : Kept (Dk ((w3.setCell ⟨d, 2, none⟩ (.int .i64 (-1))).drew.setCell ⟨d, 3, none⟩ (.int .u32 (u01 false))) F d n (crashD s bs) ∧ Fp F F w ((w3.setCell ⟨d, 2, none⟩ (.int .i64 (-1))).drew.setCell ⟨d, 3, none⟩ (.int .u32 (u01 false)))) := by
        have b5 : Bar [d] w3 ((w3.setCell ⟨d, 2, none⟩ (.int .i64 (-1))).drew.setCell ⟨d, 3, none⟩ (.int .u32 (u01 false))) := b4.drew.setCell (by simp) _
        have wc := WC.out
        rw [HZ] at wc ⊢
        refine ⟨⟨wc, gw, cw, gm, -1, H1f.drew.set_ 3 (.int .u32 (u01 false)), SXe.bar b5 (by simpa using NE.out.1), k3.bar b5 (by simpa using NE.out.2.2), rfl, HF.out⟩, ?_, fun k hk => .inl hk⟩
        rw [HF.out]
        exact (((B02.out.mono (l' := d :: gw :: gm :: []) (by simp)).trans BW.out (by simp)).trans b3 (by simp)).trans b5 (by simp)
      clear H1 H3 H1d H3d H1e SXe k3 b3 b4 H1f W SX BW BD WC HZ FIN NE HF OF AN VN RI RB
      go_wp2_with fail
      refine CB.out.mono ?_
      rintro e w' ⟨rfl, rfl⟩
      go_wp2
      go_end0
      exact ⟨rfl, F, RES.out⟩
end Go.Proofs.YtjlhnhkjgcbnnaaGreat.Disk

/-
  Package disk: Fuse.
-/

namespace Go.Proofs.YtjlhnhkjgcbnnaaGreat.Disk
open Go.RowKit Go.Proofs.YtjlhnhkjgcbnnaaGreat.Sha

set_option maxHeartbeats 400000 in
theorem cfuse_any {w : World} {F : List Nat} {d n : Nat} {s : DS} (f : Int) (h : Dk w F d n s) (hf : f ≤ 9223372036854775807) : Calls Tryz.prog 18 #[.pointer (some ⟨d, 0, none⟩), .int .i64 f] w fun e w' => e = .returned (.tuple #[]) ∧ ∃ F', Dk w' F' d n (fuseD s f) ∧ Fp F F' w w' := by
  obtain ⟨h0, gw, cw, gm, f0, h1, h2, h3, h4, rfl⟩ := h
  have z2 := h1.frozen 2
  have c2 := (h1.cell 2).trans (dk_2 _ _ _ _)
  have R := Kept.mk (Dk.turn (t := fuseD s f) (f := f) (F := d :: gw :: gm :: []) rfl ⟨_, h1⟩ h2 h3 (wf_fuse h0 f hf) rfl rfl rfl (h1.set_ 2 (.int .i64 f)) rfl ((Bar.refl [d] w).setCell (by simp) _))
  clear h0 h1 h2 h3 h4
  go_enter Tryz.func18, Tryz.ntmps18
  go_wp2
  go_end0
  exact ⟨rfl, _, R.out⟩
end Go.Proofs.YtjlhnhkjgcbnnaaGreat.Disk
