/-
  Package wire, writing: Enc in memory, its functions.
-/
import Derived.Test.YtfjkbggbaoiiiaaBytes
import Derived.Test.YtfjkbggbaoiiiaaWireSpec
import Derived.Deep.RegionHeld3
import Derived.Deep.AppendLies
namespace Go.Proofs.Ytfjkbggbaoiiiaa.Wire
open Go.RowKit Go.Proofs.Ytfjkbggbaoiiiaa.Sha

set_option maxHeartbeats 400000 in
theorem issize_any (s : Int) (w : World) : Calls Try.prog 31 #[.int .i64 s] w fun e w' => e = .returned (.bool (decide (1 ≤ s ∧ s ≤ 8))) ∧ w = w' := by
  by_cases h1 : 1 ≤ s
  · by_cases h2 : s ≤ 8
    · have h3 : decide (1 ≤ s ∧ s ≤ 8) = true := by simp [h1, h2]
      rw [h3]
      clear h3
      go_enter Try.func31, Try.ntmps31
      go_wp2
      go_ret
      exact ⟨rfl, rfl⟩
    · have h3 : decide (1 ≤ s ∧ s ≤ 8) = false := by simp [h1, h2]
      have h4 : decide (s ≤ 8) = false := by simp [h2]
      rw [h3]
      clear h3
      go_enter Try.func31, Try.ntmps31
      go_wp2
      go_ret
      exact ⟨rfl, rfl⟩
  · have h3 : decide (1 ≤ s ∧ s ≤ 8) = false := by simp [h1]
    have h4 : decide (1 ≤ s) = false := by simp [h1]
    rw [h3]
    clear h3
    go_enter Try.func31, Try.ntmps31
    go_wp2
    go_ret
    exact ⟨rfl, rfl⟩
theorem shr_fits (n s : Int) (h1 : 1 ≤ s) (h8 : s ≤ 8) (h0 : 0 ≤ n) (hm : n ≤ 4611686018427387904) : (n / 2 ^ (8 * s).toNat == 0) = fits n s := by
  obtain ⟨k, rfl⟩ : ∃ k : Nat, s = k := ⟨s.toNat, by omega⟩
  obtain ⟨m, rfl⟩ : ∃ m : Nat, n = m := ⟨n.toNat, by omega⟩
  have e : (8 * (k : Int)).toNat = 8 * k := by omega
  rw [e]
  have h2 : ((m : Int) / 2 ^ (8 * k)) = ((m / 256 ^ k : Nat) : Int) := by
    rw [← shr_byte]; push_cast; rfl
  rw [h2]
  unfold fits
  by_cases h : m < 256 ^ k
  · rw [Nat.div_eq_of_lt h]
    have h3 : (m : Int) < 256 ^ (k : Int).toNat := by
      have := Int.ofNat_lt.2 h
      rw [Int.natCast_pow] at this
      exact this
    rw [decide_eq_true (show 1 ≤ (k : Int) ∧ (k : Int) ≤ 8 ∧ 0 ≤ (m : Int) ∧ (m : Int) ≤ 4611686018427387904 ∧ (m : Int) < 256 ^ (k : Int).toNat from ⟨h1, h8, h0, hm, h3⟩)]
    rfl
  · have h4 : 0 < m / 256 ^ k := Nat.div_pos (by omega) (Nat.pow_pos (by omega))
    have h3 : ¬ (m : Int) < 256 ^ (k : Int).toNat := by
      intro hc
      apply h
      apply Int.ofNat_lt.1
      rw [Int.natCast_pow]
      exact hc
    rw [decide_eq_false (show ¬ (1 ≤ (k : Int) ∧ (k : Int) ≤ 8 ∧ 0 ≤ (m : Int) ∧ (m : Int) ≤ 4611686018427387904 ∧ (m : Int) < 256 ^ (k : Int).toNat) from fun hc => h3 hc.2.2.2.2)]
    generalize m / 256 ^ k = q at h4 ⊢
    exact beq_eq_false_iff_ne.2 (by omega)
set_option maxHeartbeats 400000 in
theorem goesinto_any (n s : Int) (w : World) (h1 : 1 ≤ s) (h8 : s ≤ 8) : Calls Try.prog 32 #[.int .i64 n, .int .i64 s] w fun e w' => e = .returned (.bool (fits n s)) ∧ w = w' := by
  by_cases h2 : 0 ≤ n
  · by_cases h3 : n ≤ 4611686018427387904
    · have hw : IntKind.i64.wrap (8 * s) = 8 * s := by rw [IntKind.wrap_i64]; omega
      have HS := Kept.mk (shr_fits n s h1 h8 h2 h3)
      go_enter Try.func32, Try.ntmps32
      go_wp2
      go_ret
      exact ⟨by rw [← HS.out]; rfl, rfl⟩
    · have hf : fits n s = false := decide_eq_false (fun hc => h3 hc.2.2.2.1)
      have h4 : decide (n ≤ 4611686018427387904) = false := by simpa using h3
      rw [hf]
      clear hf
      go_enter Try.func32, Try.ntmps32
      go_wp2
      go_ret
      exact ⟨rfl, rfl⟩
  · have hf : fits n s = false := decide_eq_false (fun hc => h2 hc.2.2.1)
    have h4 : decide (0 ≤ n) = false := by simpa using h2
    rw [hf]
    clear hf
    go_enter Try.func32, Try.ntmps32
    go_wp2
    go_ret
    exact ⟨rfl, rfl⟩

/-- an Enc at block e: what was written, the first error; its blocks -/
def En (T : TypeId) (w : World) (F : List Nat) (e : Nat) (st : St) : Prop := ∃ v, Blk w e T #[v, .int .i64 st.1] ∧ w.ownsRow 0 5 1 v st.2.length (ints .u8 st.2) ∧ F = e :: v.ownBlock.toList
theorem En.lt {T : TypeId} {w : World} {F : List Nat} {e : Nat} {st : St} (h : En T w F e st) : ∀ k ∈ F, k < w.heap.size := by
  obtain ⟨v, h1, h2, rfl⟩ := h
  intro k hk
  rcases List.mem_cons.1 hk with rfl | hk
  · exact h1.lt
  · exact own_lt h2 k hk
theorem En.keep {T : TypeId} {w w' : World} {F G : List Nat} {e : Nat} {st : St} (h : En T w F e st) (b : Bar G w w') (d : Disj F G) : En T w' F e st := by
  obtain ⟨v, h1, h2, rfl⟩ := h
  exact ⟨v, h1.bar b (d _ (List.mem_cons_self ..)), own_keep h2 b (fun g hg => d g (List.mem_cons_of_mem _ hg)), rfl⟩
theorem En.below {T : TypeId} {w w' : World} {F : List Nat} {e : Nat} {st : St} (h : En T w F e st) (b : Below w.heap.size w w') : En T w' F e st := h.keep (barOf b []) (fun _ _ => by simp)

set_option maxHeartbeats 400000 in
theorem newenc_any (w : World) : Calls Try.prog 10 #[] w fun x w' => x = .returned (.pointer (some ⟨w.heap.size, 0, none⟩)) ∧ En 57 w' [w.heap.size] w.heap.size (0, []) ∧ Fp [] [w.heap.size] w w' := by
  have h1 : En 57 (w.alloc (.cells #[.slice none 0 0, .int .i64 0] 57)) [w.heap.size] w.heap.size (0, []) := ⟨_, Blk.new _ _ _, World.ownsRow_nil _ _ _ _, rfl⟩
  have h2 : Fp [] [w.heap.size] w (w.alloc (.cells #[.slice none 0 0, .int .i64 0] 57)) := ⟨(Bar.refl _ _).alloc _, fun k hk => by simp at hk; omega⟩
  have H1 := Kept.mk h1; have H2 := Kept.mk h2
  clear h1 h2
  go_enter Try.func10, Try.ntmps10
  go_wp2
  go_ret
  exact ⟨rfl, H1.out, H2.out⟩
set_option maxRecDepth 100000 in
set_option maxHeartbeats 400000 in
theorem fail_any (w : World) (F : List Nat) (e : Nat) (st : St) (err : Int) (h : En 57 w F e st) : Calls Try.prog 33 #[.pointer (some ⟨e, 0, none⟩), .int .i64 err] w fun x w' => x = .returned (.tuple #[]) ∧ En 57 w' [e] e (err, []) ∧ Fp F [e] w w' := by
  obtain ⟨v, h1, h2, rfl⟩ := h
  have c0 := h1.cell 0
  have c1 := h1.cell 1
  have z0 := h1.frozen 0
  have z1 := h1.frozen 1
  have H1 := Kept.mk h1
  clear h1 h2
  go_enter Try.func33, Try.ntmps33
  go_wp2
  go_end0
  exact ⟨rfl, ⟨_, (H1.out.set_ 0 _).set_ 1 _, World.ownsRow_nil _ _ _ _, rfl⟩, ((Bar.refl _ _).setCell (by simp) _).setCell (by simp) _, fun k hk => .inl (by simp at hk; simp [hk])⟩
/-- what was grown is stored where it was read -/
theorem en_store {T : TypeId} (hT : 5 ≠ T) {wr wm w1 : World} {e : Nat} {v v' : Value} {err : Int} {n : Nat} {ys : List Int} (hb : Blk wr e T #[v, .int .i64 err]) (hm : Bar [] wr wm) (hg : wm.grownBy w1 v.ownBlock) (hfar : v.ownBlock ≠ some e)
    (ho : w1.ownsRow 0 5 1 v' n (ints .u8 ys)) (hat : v'.ownBlock = v.ownBlock ∨ ∃ g, v'.ownBlock = some g ∧ wr.heap.size ≤ g) :
    En T (w1.setCell ⟨e, 0, none⟩ v') (e :: v'.ownBlock.toList) e (err, ys) ∧ Fp (e :: v.ownBlock.toList) (e :: v'.ownBlock.toList) wr (w1.setCell ⟨e, 0, none⟩ v') := by
  obtain rfl : n = ys.length := by have := ho.1; rw [ints_len] at this; omega
  have b1 : Blk w1 e T #[v, .int .i64 err] := (hb.bar hm (by simp)).grown hg (Ne.symm hfar)
  have hne : v'.ownBlock ≠ some e := own_far ho b1 hT
  refine ⟨⟨v', b1.set_ 0 _, own_keep ho ((Bar.refl [e] w1).setCell (by simp) _) (fun g hg2 hm2 => hne ?_), rfl⟩, ?_, ?_⟩
  · simp at hm2 hg2; rw [hg2, hm2]
  · refine Bar.setCell ?_ (.inl (by simp)) _
    exact (hm.mono (l' := e :: v.ownBlock.toList) (by simp)).grown hg (fun k hk => .inl (by simp [hk]))
  · intro k hk
    rcases List.mem_cons.1 hk with rfl | hk
    · exact .inl (List.mem_cons_self ..)
    · rcases hat with hat | ⟨g, hat, hge⟩
      · rw [hat] at hk; exact .inl (List.mem_cons_of_mem _ hk)
      · rw [hat] at hk; simp at hk; subst hk; exact .inr hge
theorem byte_is (n j : Nat) : IntKind.u8.wrap ((n : Int) / 2 ^ (8 * (j : Int)).toNat) = ((n / 256 ^ j % 256 : Nat) : Int) := by
  rw [IntKind.wrap_u8, show (8 * (j : Int)).toNat = 8 * j by omega, ← shr_byte, Int.natCast_emod, Int.natCast_ediv, Int.natCast_pow]
  rfl
set_option maxRecDepth 100000 in
set_option maxHeartbeats 1000000 in
theorem put_any (w : World) (F : List Nat) (e n s : Nat) (xs : List Int) (h : En 57 w F e (0, xs)) (hs : s ≤ 8) (hl : xs.length ≤ 2147483648) :
    Calls Try.prog 34 #[.pointer (some ⟨e, 0, none⟩), .int .i64 n, .int .i64 s] w fun x w' => x = .returned (.tuple #[]) ∧ ∃ F', En 57 w' F' e (0, xs ++ be n s) ∧ Fp F F' w w' := by
  have HE := Kept.mk h
  clear h
  go_enter Try.func34, Try.ntmps34
  go_wp2
  go_loopw [6] (fun i wr => ∃ (k : Nat) (cur : List Int) (G : List Nat), k ≤ s ∧ i = .int .i64 ((k : Int) - 1) ∧ Kept (cur ++ be n k = xs ++ be n s) ∧ Kept (En 57 wr G e (0, cur)) ∧ Kept (Fp F G w wr)) (fun i _ => (intOf i + 1).toNat)
  case atStart => exact ⟨s, xs, F, by omega, by go_num, ⟨rfl⟩, HE, ⟨Fp.refl _ _⟩⟩
  case round =>
    clear HE
    obtain ⟨k, cur, G, hk, rfl, HC, HE, HF⟩ := hrel
    by_cases h0 : k = 0
    · subst h0
      go_wp2
      go_end0
      have hc := HC.out
      simp only [be, List.append_nil] at hc
      exact ⟨rfl, G, hc ▸ HE.out, HF.out⟩
    · obtain ⟨j, rfl⟩ : ∃ j, k = j + 1 := ⟨k - 1, by omega⟩
      obtain ⟨v, hb, ho, hG⟩ := HE.out
      have c0 := hb.cell 0
      rw [show (#[v, Value.int IntKind.i64 0] : Array Value)[0]? = some v from rfl] at c0
      have z0 := hb.frozen 0
      obtain ⟨b, hbb⟩ : ∃ b : Int, ((n / 256 ^ j % 256 : Nat) : Int) = b := ⟨_, rfl⟩
      have hB := byte_is n j
      have hm : IntKind.i64.wrap (8 * (j : Int)) = 8 * j := by rw [IntKind.wrap_i64]; omega
      rw [hbb] at hB
      have hbe : be n (j + 1) = b :: be n j := by rw [be, hbb]
      have HBE := Kept.mk hbe
      have hfar := own_far ho hb (by decide)
      have hlt := hb.lt
      have hsz : cur.length ≤ xs.length + s := by
        have := congrArg List.length HC.out
        simp only [List.length_append, be_len] at this
        omega
      have HO := Kept.mk ho; have HBk := Kept.mk hb
      clear hbb hbe hb ho
      obtain ⟨iu, hi, hz0, hz1, hz2⟩ := info_parts info_u8
      go_wp2_with fail
      have T1 : (wr.alloc (Obj.cells #[Value.int IntKind.u8 b] 5)).drew.frozen? { block := e, off := 0 } = false := (HBk.out.alloc _).drew.frozen 0
      have T2 : (wr.alloc (Obj.cells #[Value.int IntKind.u8 b] 5)).drew.cell? { block := e, off := 0 } = some v := (HBk.out.alloc _).drew.cell 0
      go_region_law
        ((refine step_append_lies _ (by rfl) _ _ _ (by rfl) 0 5 iu _ 1 1 Try.underlying27 hi hz0 hz1 hz2 rfl (by omega) v cur.length (ints .u8 cur) (by rfl) ((HO.out.alloc _).drew)
            ⟨wr.heap.size, 0, none⟩ 1 1 [.int .u8 b] (by rfl) (by rfl) (World.news_of_block (cs := #[.int .u8 b]) (t := 5) (fr := (0, 0)) (heap_alloc_new wr _)) (by simp [Value.oneCell'])
            (by omega) (by unfold maxLen; omega) (by omega) (by simp) (wr.heap.size + 1) (by simp) ?_; intro gg cg w1 hown1 hgrow hat hlt1; have U0 := (((HBk.out.alloc (.cells #[.int .u8 b] 5)).drew.grown hgrow (Ne.symm hfar)).cell 0); have U1 := (((HBk.out.alloc (.cells #[.int .u8 b] 5)).drew.grown hgrow (Ne.symm hfar)).frozen 0)))
      all_goals
        have hst := en_store (by decide) HBk.out ((Bar.refl [] wr).alloc (.cells #[.int .u8 b] 5)).drew hgrow hfar (ys := cur ++ [b]) (by rw [ints_append]; exact hown1) (by
          rcases hat with h | h
          · exact .inl h.symm
          · exact .inr ⟨gg, rfl, by omega⟩)
        have HST := Kept.mk hst
        clear hst hgrow hown1 U0 U1 T1 T2
        subst hG
        go_wp2
        go_roundw
        case rel =>
          refine ⟨j, cur ++ [b], _, by omega, by go_num, ⟨?_⟩, ⟨HST.out.1⟩, ⟨HF.out.trans HST.out.2⟩⟩
          have := HC.out
          rw [HBE.out] at this
          rw [List.append_assoc]
          exact this
        case measure => simp [intOf]

set_option maxRecDepth 100000 in
set_option maxHeartbeats 1000000 in
theorem num_any (w : World) (F : List Nat) (e : Nat) (n s : Int) (st : St) (h : En 57 w F e st) (hl : st.2.length ≤ 2147483648) :
    Calls Try.prog 12 #[.pointer (some ⟨e, 0, none⟩), .int .i64 n, .int .i64 s] w fun x w' => x = .returned (.tuple #[]) ∧ ∃ F', En 57 w' F' e (encNum st n s) ∧ Fp F F' w w' := by
  obtain ⟨err, xs⟩ := st
  have HE := Kept.mk h
  have c1 : w.cell? ⟨e, 1, none⟩ = some (.int .i64 err) := by obtain ⟨v, hb, _⟩ := h; exact hb.cell 1
  clear h
  by_cases he : err = 0
  · subst he
    by_cases hs : 1 ≤ s ∧ s ≤ 8
    · have ci := Kept.mk fun w => issize_any s w
      rw [decide_eq_true hs] at ci
      cases hf : fits n s with
      | true =>
        have hg := Kept.mk fun w => goesinto_any n s w hs.1 hs.2
        rw [hf] at hg
        have h0 : 0 ≤ n := (fits_be hf).2.2.2.2
        have HR := Kept.mk (show encNum (0, xs) n s = (0, xs ++ be n.toNat s.toNat) by unfold encNum; simp [hf])
        have hp := Kept.mk (put_any w F e n.toNat s.toNat xs HE.out (by omega) hl)
        rw [Int.toNat_of_nonneg h0, Int.toNat_of_nonneg (show 0 ≤ s by omega)] at hp
        clear hf HE
        go_enter Try.func12, Try.ntmps12
        go_wp2_with (first
          | (go_at_call 31; refine (ci.out _).mono ?_; rintro x w' ⟨rfl, rfl⟩)
          | (go_at_call 32; refine (hg.out _).mono ?_; rintro x w' ⟨rfl, rfl⟩))
        refine hp.out.mono ?_
        rintro x w' ⟨rfl, F', h1, h2⟩
        rw [← HR.out] at h1
        have H1 := Kept.mk h1; have H2 := Kept.mk h2
        clear h1 h2
        go_wp2
        (first | go_end0 | ((try simp only [Exit.inBlock, Exit.then]); refine bodyPost_ret (results_none rfl _ _ _) rfl ?_))
        exact ⟨rfl, F', H1.out, H2.out⟩
      | false =>
        have hg := Kept.mk fun w => goesinto_any n s w hs.1 hs.2
        rw [hf] at hg
        have HR := Kept.mk (show encNum (0, xs) n s = (1, []) by unfold encNum; simp [hf])
        have hp := Kept.mk (fail_any w F e (0, xs) 1 HE.out)
        clear hf HE
        go_enter Try.func12, Try.ntmps12
        go_wp2_with (first
          | (go_at_call 31; refine (ci.out _).mono ?_; rintro x w' ⟨rfl, rfl⟩)
          | (go_at_call 32; refine (hg.out _).mono ?_; rintro x w' ⟨rfl, rfl⟩))
        refine hp.out.mono ?_
        rintro x w' ⟨rfl, h1, h2⟩
        rw [← HR.out] at h1
        have H1 := Kept.mk h1; have H2 := Kept.mk h2
        clear h1 h2
        go_wp2
        (first | go_end0 | ((try simp only [Exit.inBlock, Exit.then]); refine bodyPost_ret (results_none rfl _ _ _) rfl ?_))
        exact ⟨rfl, _, H1.out, H2.out⟩
    · have ci := Kept.mk fun w => issize_any s w
      rw [decide_eq_false hs] at ci
      have hf : fits n s = false := decide_eq_false (fun hc => hs ⟨hc.1, hc.2.1⟩)
      have HR := Kept.mk (show encNum (0, xs) n s = (1, []) by unfold encNum; simp [hf])
      have hp := Kept.mk (fail_any w F e (0, xs) 1 HE.out)
      clear hf HE
      go_enter Try.func12, Try.ntmps12
      go_wp2_with (go_at_call 31; refine (ci.out _).mono ?_; rintro x w' ⟨rfl, rfl⟩)
      refine hp.out.mono ?_
      rintro x w' ⟨rfl, h1, h2⟩
      rw [← HR.out] at h1
      have H1 := Kept.mk h1; have H2 := Kept.mk h2
      clear h1 h2
      go_wp2
      (first | go_end0 | ((try simp only [Exit.inBlock, Exit.then]); refine bodyPost_ret (results_none rfl _ _ _) rfl ?_))
      exact ⟨rfl, _, H1.out, H2.out⟩
  · have HR := Kept.mk (show encNum (err, xs) n s = (err, xs) by unfold encNum; simp [he])
    have he2 : (err != 0) = true := by simpa using he
    go_enter Try.func12, Try.ntmps12
    go_wp2
    (first | go_end0 | ((try simp only [Exit.inBlock, Exit.then]); refine bodyPost_ret (results_none rfl _ _ _) rfl ?_))
    rw [HR.out]
    exact ⟨rfl, F, HE.out, Fp.refl _ _⟩

set_option maxRecDepth 100000 in
set_option maxHeartbeats 1000000 in
theorem txt_any (w : World) (F : List Nat) (e : Nat) (A : Option Addr) (m c : Nat) (b : List Int) (st : St) (h : En 57 w F e st) (hr : Rd w A m b) (hF : Off A m F) (hl : st.2.length ≤ 2147483647) :
    Calls Try.prog 14 #[.pointer (some ⟨e, 0, none⟩), .slice A m c] w fun x w' => x = .returned (.tuple #[]) ∧ ∃ F', En 57 w' F' e (encTxt st b) ∧ Fp F F' w w' := by
  obtain ⟨err, xs⟩ := st
  have HE := Kept.mk h
  have RB := Kept.mk hr
  have LB := Kept.mk hr.1
  have c1 : w.cell? ⟨e, 1, none⟩ = some (.int .i64 err) := by obtain ⟨v, hb, _⟩ := h; exact hb.cell 1
  clear h hr
  by_cases he : err = 0
  · subst he
    by_cases hm : m ≤ 65535
    · have hm' : ¬ (65535 : Int) < m := by omega
      have HR := Kept.mk (show encTxt (0, xs) b = (0, xs ++ (be m 2 ++ b)) by unfold encTxt; rw [LB.out]; simp [hm])
      have hp := Kept.mk (put_any w F e m 2 xs HE.out (by omega) (by simp only at hl; omega))
      have hF' := Kept.mk hF
      clear HE hF
      go_enter Try.func14, Try.ntmps14
      go_wp2_with fail
      refine hp.out.mono ?_
      rintro x w1 ⟨rfl, F1, h1, h2⟩
      obtain ⟨v, hb, ho, hG⟩ := h1
      have c0 : w1.cell? ⟨e, 0, none⟩ = some v := hb.cell 0
      have HF1 := Kept.mk h2
      have HB := Kept.mk hb; have HO := Kept.mk ho
      have hR1 := Kept.mk (RB.out.far h2.1 hF'.out)
      have hfar := own_far ho hb (by decide)
      clear h2 hb ho
      go_wp2_with ((with_reducible refine sel 24 ?_); refine wpList_append_rda rfl (.tmp 22) (.tmp 23) 27 rfl 0 5 Try.underlying27 info_u8 v (xs ++ be m 2).length _ rfl HO.out A m c b rfl hR1.out (by simp only [List.length_append, be_len]; omega) (by omega) ?_; intro v7 w7 o7 g7 a7; obtain ⟨A7, c7, rfl⟩ := own_shape o7.out; have d0 : w7.cell? ⟨e, 0, none⟩ = some v := (HB.out.grown g7 (Ne.symm hfar)).cell 0; have z0 : w7.frozen? ⟨e, 0, none⟩ = false := (HB.out.grown g7 (Ne.symm hfar)).frozen 0)
      (first | go_end0 | ((try simp only [Exit.inBlock, Exit.then]); refine bodyPost_ret (results_none rfl _ _ _) rfl ?_))
      have hst := en_store (by decide) HB.out (Bar.refl [] w1) g7 hfar (ys := xs ++ (be m 2 ++ b)) (by
          have := o7.out
          rw [← ints_append, List.append_assoc] at this
          exact this) (by
          rcases a7 with h | h
          · exact .inl h
          · exact .inr ⟨_, h, Nat.le_refl _⟩)
      subst hG
      rw [HR.out, ← List.length_append]
      exact ⟨rfl, _, hst.1, HF1.out.trans hst.2⟩
    · have hm' : (65535 : Int) < m := by omega
      have HR := Kept.mk (show encTxt (0, xs) b = (3, []) by unfold encTxt; rw [LB.out]; simp; omega)
      have hp := Kept.mk (fail_any w F e (0, xs) 3 HE.out)
      clear HE
      go_enter Try.func14, Try.ntmps14
      go_wp2_with fail
      refine hp.out.mono ?_
      rintro x w' ⟨rfl, h1, h2⟩
      rw [← HR.out] at h1
      have H1 := Kept.mk h1; have H2 := Kept.mk h2
      clear h1 h2
      go_wp2
      (first | go_end0 | ((try simp only [Exit.inBlock, Exit.then]); refine bodyPost_ret (results_none rfl _ _ _) rfl ?_))
      exact ⟨rfl, _, H1.out, H2.out⟩
  · have HR := Kept.mk (show encTxt (err, xs) b = (err, xs) by unfold encTxt; simp [he])
    have he2 : (err != 0) = true := by simpa using he
    go_enter Try.func14, Try.ntmps14
    go_wp2
    (first | go_end0 | ((try simp only [Exit.inBlock, Exit.then]); refine bodyPost_ret (results_none rfl _ _ _) rfl ?_))
    rw [HR.out]
    exact ⟨rfl, F, HE.out, Fp.refl _ _⟩
end Go.Proofs.Ytfjkbggbaoiiiaa.Wire
