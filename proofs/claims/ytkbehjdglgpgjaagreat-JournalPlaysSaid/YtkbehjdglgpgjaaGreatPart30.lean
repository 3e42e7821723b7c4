/-
  Parts laid together: JSame.
-/
import Derived.Test.YtkbehjdglgpgjaaGreatPart12
import Derived.Test.YtkbehjdglgpgjaaGreatPart29
import Derived.Test.YtkbehjdglgpgjaaGreatPart5

namespace Go.Proofs.YtkbehjdglgpgjaaGreat.Journal
open Go.RowKit Go.Proofs.YtkbehjdglgpgjaaGreat.Sha Go.Proofs.YtkbehjdglgpgjaaGreat.Disk Go.Proofs.YtkbehjdglgpgjaaGreat.Frame

theorem like_rows {L : List (List Int)} : likeB L.length L.length (rowOf L) (fun i => L.getD i []) = true := by
 unfold likeB
 rw [decide_eq_true_eq]
 exact ⟨rfl, fun i _ => rfl⟩
set_option maxRecDepth 100000 in
set_option maxHeartbeats 4000000 in
theorem same_any {Jk : World → List Nat → Nat → Nat → Nat → Nat → JV → Prop} (api : JournalApi Jk) {w : World} {H H2 : List Nat} {t d j n x y : Nat} {s : DS} {v : JV} (sy : Sy Jk w H t d j n s v) (ry : Ry w H2 x y n s v) (hd : v.dead = false) :
  Calls Tryz.prog 23 #[.pointer (some ⟨j, 0, none⟩), .pointer (some ⟨x, 0, none⟩)] w fun e w' => e = .returned (.bool true) ∧ Below w.heap.size w w' := by
 have CP := Kept.mk (api.picture sy)
 have SY := Kept.mk sy
 have RY := Kept.mk ry
 have HD := Kept.mk hd
 clear sy ry hd
 go_enter Tryz.func23, Tryz.ntmps23
 go_wp2_with fail
 refine CP.out.mono ?_
 rintro e w1 ⟨A1, n1, c1, rfl, -, -, r1, b1⟩
 have SY1 := Kept.mk (SY.out.keep api.base (barOf b1 []) (fun _ _ => by simp))
 have RY1 := Kept.mk (RY.out.below b1)
 have B1 := Kept.mk b1
 have R1 := Kept.mk r1
 clear CP SY RY b1 r1
 go_upto_region 2 with (fail)
 have fd := (Below.refl w1.heap.size w1).drew
 have SY2 := Kept.mk (SY1.out.keep api.base (barOf fd []) (fun _ _ => by simp))
 have RY2 := Kept.mk (RY1.out.below fd)
 have B2 := Kept.mk (B1.out.trans (fd.mono B1.out.size))
 have R2 := Kept.mk R1.out.drew
 clear SY1 RY1 B1 R1 fd
 refine wp_region_noPanic ?_
 generalize hw2 : w1.drew = w2 at SY2 RY2 B2 R2
 obtain ⟨F, K, A0, m0, c0, vr, h1, k1, -, -, p1, -, -, o1, -, -, -, -, -, vok⟩ := RY2.out.parts
 obtain ⟨Av, cv, hvr⟩ := o1.shape
 subst hvr
 have k2 : w2.cell? ⟨x, 2, none⟩ = some (.int .i64 v.gen) := k1.cell 2
 have k3 : w2.cell? ⟨x, 3, none⟩ = some (.bool v.has) := k1.cell 3
 have k4 : w2.cell? ⟨x, 4, none⟩ = some (.slice A0 m0 c0) := k1.cell 4
 have k5 : w2.cell? ⟨x, 5, none⟩ = some (.slice Av v.recs.length cv) := k1.cell 5
 have xlt := k1.lt
 have PT := Kept.mk (And.intro h1 (And.intro k1 (And.intro p1 o1)))
 have VK := Kept.mk vok
 clear h1 k1 p1 o1 vok RY2
 rw [← hw2] at k2 k3 k4 k5
 refine wp_region_held_drew (S := fun w' : World => w'.cell? ⟨x, 2, none⟩ = some (.int .i64 v.gen) ∧ w'.cell? ⟨x, 3, none⟩ = some (.bool v.has) ∧ w'.cell? ⟨x, 4, none⟩ = some (.slice A0 m0 c0) ∧ w'.cell? ⟨x, 5, none⟩ = some (.slice Av v.recs.length cv)) (by kernel_rfl) ⟨k2, k3, k4, k5⟩ (fun hHeld => ?_)
 rw [hw2] at hHeld ⊢
 clear k2 k3 k4 k5 hw2
 have KX : Kept (∀ w', Below w2.heap.size w2 w' → w'.cell? ⟨x, 2, none⟩ = some (.int .i64 v.gen) ∧ w'.cell? ⟨x, 3, none⟩ = some (.bool v.has) ∧ w'.cell? ⟨x, 4, none⟩ = some (.slice A0 m0 c0) ∧ w'.cell? ⟨x, 5, none⟩ = some (.slice Av v.recs.length cv)) := ⟨fun w' b => ⟨(b.cell (p := ⟨x, 2, none⟩) xlt).trans hHeld.1, (b.cell (p := ⟨x, 3, none⟩) xlt).trans hHeld.2.1, (b.cell (p := ⟨x, 4, none⟩) xlt).trans hHeld.2.2.1, (b.cell (p := ⟨x, 5, none⟩) xlt).trans hHeld.2.2.2⟩⟩
 have CB := Kept.mk (bytes_same A1 A0 n1 m0 c1 c0 v.pict w2 R2.out PT.out.2.2.1)
 have CR := Kept.mk (api.records SY2.out)
 refine wpAnyH_take (i := 0) (oi := ?o411) (v := ?v411) ?hi411 (by kernel_rfl) (by kernel_rfl) (by kernel_rfl) ?hq411 (Or.inl ⟨?hw411, ?hy411⟩) (by assumption) ?r411
 case hi411 => (simp only [List.getElem?_toArray, List.getElem?_cons_zero]; exact rfl)
 case hq411 => exact fun _ _ _ h => h
 case hw411 => rfl
 case hy411 => (intro w hSw; (try dsimp only at hSw); go_simp; try exact rfl)
 simp only [Act.put, List.setIfInBounds_toArray, List.set_cons_zero, List.set_cons_succ]
 refine wpAnyH_take (i := 1) (oi := ?o412) (v := ?v412) ?hi412 (by kernel_rfl) (by kernel_rfl) (by kernel_rfl) ?hq412 (Or.inl ⟨?hw412, ?hy412⟩) (by assumption) ?r412
 case hi412 => (simp only [List.getElem?_toArray, List.getElem?_cons_succ, List.getElem?_cons_zero]; exact rfl)
 case hq412 => exact fun _ _ _ h => h
 case hw412 => rfl
 case hy412 => (intro w hSw; (try dsimp only at hSw); go_simp; try exact rfl)
 simp only [Act.put, List.setIfInBounds_toArray, List.set_cons_zero, List.set_cons_succ]
 refine wpAnyH_take (i := 2) (oi := ?o413) (v := ?v413) ?hi413 (by kernel_rfl) (by kernel_rfl) (by kernel_rfl) ?hq413 (Or.inl ⟨?hw413, ?hy413⟩) (by assumption) ?r413
 case hi413 => (simp only [List.getElem?_toArray, List.getElem?_cons_succ, List.getElem?_cons_zero]; exact rfl)
 case hq413 => exact fun _ _ _ h => h
 case hw413 => rfl
 case hy413 => (intro w hSw; (try dsimp only at hSw); go_simp; try exact rfl)
 simp only [Act.put, List.setIfInBounds_toArray, List.set_cons_zero, List.set_cons_succ]
 refine wpAnyH_take (i := 3) (oi := ?o414) (v := ?v414) ?hi414 (by kernel_rfl) (by kernel_rfl) (by kernel_rfl) ?hq414 (Or.inl ⟨?hw414, ?hy414⟩) (by assumption) ?r414
 case hi414 => (simp only [List.getElem?_toArray, List.getElem?_cons_succ, List.getElem?_cons_zero]; exact rfl)
 case hq414 => exact fun _ _ _ h => h
 case hw414 => rfl
 case hy414 => (intro w hSw; (try dsimp only at hSw); go_simp; try exact rfl)
 simp only [Act.put, List.setIfInBounds_toArray, List.set_cons_zero, List.set_cons_succ]
 refine wpAnyH_take (i := 4) (oi := ?o415) (v := ?v415) ?hi415 (by kernel_rfl) (by kernel_rfl) (by kernel_rfl) ?hq415 (Or.inl ⟨?hw415, ?hy415⟩) (by assumption) ?r415
 case hi415 => (simp only [List.getElem?_toArray, List.getElem?_cons_succ, List.getElem?_cons_zero]; exact rfl)
 case hq415 => exact fun _ _ _ h => h
 case hw415 => rfl
 case hy415 => (intro w hSw; (try dsimp only at hSw); go_simp; try exact rfl)
 simp only [Act.put, List.setIfInBounds_toArray, List.set_cons_zero, List.set_cons_succ]
 refine wpAnyH_take (i := 5) (oi := ?o416) (v := ?v416) ?hi416 (by kernel_rfl) (by kernel_rfl) (by kernel_rfl) ?hq416 (Or.inl ⟨?hw416, ?hy416⟩) (by assumption) ?r416
 case hi416 => (simp only [List.getElem?_toArray, List.getElem?_cons_succ, List.getElem?_cons_zero]; exact rfl)
 case hq416 => exact fun _ _ _ h => h
 case hw416 => rfl
 case hy416 => (intro w hSw; (try dsimp only at hSw); go_simp; try exact rfl)
 simp only [Act.put, List.setIfInBounds_toArray, List.set_cons_zero, List.set_cons_succ]
 refine wpAnyH_take (i := 6) (oi := ?o417) (v := ?v417) ?hi417 (by kernel_rfl) (by kernel_rfl) (by kernel_rfl) ?hq417 (Or.inl ⟨?hw417, ?hy417⟩) (by assumption) ?r417
 case hi417 => (simp only [List.getElem?_toArray, List.getElem?_cons_succ, List.getElem?_cons_zero]; exact rfl)
 case hq417 => exact fun _ _ _ h => h
 case hw417 => rfl
 case hy417 => (intro w hSw; (try dsimp only at hSw); go_simp; try exact rfl)
 simp only [Act.put, List.setIfInBounds_toArray, List.set_cons_zero, List.set_cons_succ]
 refine wpAnyH_take (i := 7) (oi := ?o418) (v := ?v418) ?hi418 (by kernel_rfl) (by kernel_rfl) (by kernel_rfl) ?hq418 (Or.inl ⟨?hw418, ?hy418⟩) (by assumption) ?r418
 case hi418 => (simp only [List.getElem?_toArray, List.getElem?_cons_succ, List.getElem?_cons_zero]; exact rfl)
 case hq418 => exact fun _ _ _ h => h
 case hw418 => rfl
 case hy418 => (intro w hSw; (try dsimp only at hSw); go_simp; try exact rfl)
 simp only [Act.put, List.setIfInBounds_toArray, List.set_cons_zero, List.set_cons_succ]
 refine wpAnyH_take (i := 8) (oi := ?o419) (v := ?v419) ?hi419 (by kernel_rfl) (by kernel_rfl) (by kernel_rfl) ?hq419 (Or.inl ⟨?hw419, ?hy419⟩) (by assumption) ?r419
 case hi419 => (simp only [List.getElem?_toArray, List.getElem?_cons_succ, List.getElem?_cons_zero]; exact rfl)
 case hq419 => exact fun _ _ _ h => h
 case hw419 => rfl
 case hy419 => (intro w hSw; (try dsimp only at hSw); go_simp; try exact rfl)
 simp only [Act.put, List.setIfInBounds_toArray, List.set_cons_zero, List.set_cons_succ]
 refine wpAnyH_take (i := 9) (oi := ?o420) (v := ?v420) ?hi420 (by kernel_rfl) (by kernel_rfl) (by kernel_rfl) ?hq420 (Or.inl ⟨?hw420, ?hy420⟩) (by assumption) ?r420
 case hi420 => (simp only [List.getElem?_toArray, List.getElem?_cons_succ, List.getElem?_cons_zero]; exact rfl)
 case hq420 => exact fun _ _ _ h => h
 case hw420 => rfl
 case hy420 => (intro w hSw; (try dsimp only at hSw); go_simp; try exact rfl)
 simp only [Act.put, List.setIfInBounds_toArray, List.set_cons_zero, List.set_cons_succ]
 refine wpAnyH_take (i := 10) (oi := ?o421) (v := ?v421) ?hi421 (by kernel_rfl) (by kernel_rfl) (by kernel_rfl) ?hq421 (Or.inl ⟨?hw421, ?hy421⟩) (by assumption) ?r421
 case hi421 => (simp only [List.getElem?_toArray, List.getElem?_cons_succ, List.getElem?_cons_zero]; exact rfl)
 case hq421 => exact fun _ _ _ h => h
 case hw421 => rfl
 case hy421 => (intro w hSw; (try dsimp only at hSw); go_simp; try exact rfl)
 simp only [Act.put, List.setIfInBounds_toArray, List.set_cons_zero, List.set_cons_succ]
 refine wpAnyH_take (i := 11) (oi := ?o422) (v := ?v422) ?hi422 (by kernel_rfl) (by kernel_rfl) (by kernel_rfl) ?hq422 (Or.inl ⟨?hw422, ?hy422⟩) (by assumption) ?r422
 case hi422 => (simp only [List.getElem?_toArray, List.getElem?_cons_succ, List.getElem?_cons_zero]; exact rfl)
 case hq422 => exact fun _ _ _ h => h
 case hw422 => rfl
 case hy422 => (intro w hSw; (try dsimp only at hSw); go_simp; try exact rfl)
 simp only [Act.put, List.setIfInBounds_toArray, List.set_cons_zero, List.set_cons_succ]
 refine wpAnyH_ready (rs := [12]) (by kernel_rfl) (by simp) ?_
 refine AllReadyH.cons (o := ?o445) ?hi445 (fun K hK => ?_) AllReadyH.nil
 case hi445 => (simp only [List.getElem?_toArray, List.getElem?_cons_succ, List.getElem?_cons_zero]; exact rfl)
 go_simp
 go_at_call 50
 refine CB.out.mono ?_
 rintro e w' ⟨rfl, rfl⟩
 refine hK.out _ _ hHeld (fun _ => ?_)
 clear hK K CB
 try simp only [Act.put, List.setIfInBounds_toArray, List.set_cons_zero, List.set_cons_succ]
 refine wpAnyH_take (i := 13) (oi := ?o423) (v := ?v423) ?hi423 (by kernel_rfl) (by kernel_rfl) (by kernel_rfl) ?hq423 (Or.inl ⟨?hw423, ?hy423⟩) (by assumption) ?r423
 case hi423 => (simp only [List.getElem?_toArray, List.getElem?_cons_succ, List.getElem?_cons_zero]; exact rfl)
 case hq423 => exact fun _ _ _ h => h
 case hw423 => rfl
 case hy423 => (intro w hSw; (try dsimp only at hSw); go_simp; try exact rfl)
 simp only [Act.put, List.setIfInBounds_toArray, List.set_cons_zero, List.set_cons_succ]
 refine wpAnyH_take (i := 14) (oi := ?o424) (v := ?v424) ?hi424 (by kernel_rfl) (by kernel_rfl) (by kernel_rfl) ?hq424 (Or.inl ⟨?hw424, ?hy424⟩) (by assumption) ?r424
 case hi424 => (simp only [List.getElem?_toArray, List.getElem?_cons_succ, List.getElem?_cons_zero]; exact rfl)
 case hq424 => exact fun _ _ _ h => h
 case hw424 => rfl
 case hy424 => (intro w hSw; (try dsimp only at hSw); go_simp; try exact rfl)
 simp only [Act.put, List.setIfInBounds_toArray, List.set_cons_zero, List.set_cons_succ]
 refine wpAnyH_take (i := 15) (oi := ?o425) (v := ?v425) ?hi425 (by kernel_rfl) (by kernel_rfl) (by kernel_rfl) ?hq425 (Or.inl ⟨?hw425, ?hy425⟩) (by assumption) ?r425
 case hi425 => (simp only [List.getElem?_toArray, List.getElem?_cons_succ, List.getElem?_cons_zero]; exact rfl)
 case hq425 => exact fun _ _ _ h => h
 case hw425 => rfl
 case hy425 => (intro w hSw; (try dsimp only at hSw); go_simp; try exact rfl)
 simp only [Act.put, List.setIfInBounds_toArray, List.set_cons_zero, List.set_cons_succ]
 refine wpAnyH_take (i := 17) (oi := ?o426) (v := ?v426) ?hi426 (by kernel_rfl) (by kernel_rfl) (by kernel_rfl) ?hq426 (Or.inl ⟨?hw426, ?hy426⟩) (by assumption) ?r426
 case hi426 => (simp only [List.getElem?_toArray, List.getElem?_cons_succ, List.getElem?_cons_zero]; exact rfl)
 case hq426 => exact fun _ _ _ h => h
 case hw426 => rfl
 case hy426 => (intro w hSw; (try dsimp only at hSw); go_simp; try exact rfl)
 simp only [Act.put, List.setIfInBounds_toArray, List.set_cons_zero, List.set_cons_succ]
 refine wpAnyH_take (i := 18) (oi := ?o427) (v := ?v427) ?hi427 (by kernel_rfl) (by kernel_rfl) (by kernel_rfl) ?hq427 (Or.inl ⟨?hw427, ?hy427⟩) (by assumption) ?r427
 case hi427 => (simp only [List.getElem?_toArray, List.getElem?_cons_succ, List.getElem?_cons_zero]; exact rfl)
 case hq427 => exact fun _ _ _ h => h
 case hw427 => rfl
 case hy427 => (intro w hSw; (try dsimp only at hSw); go_simp; try exact rfl)
 simp only [Act.put, List.setIfInBounds_toArray, List.set_cons_zero, List.set_cons_succ]
 refine wpAnyH_take (i := 19) (oi := ?o428) (v := ?v428) ?hi428 (by kernel_rfl) (by kernel_rfl) (by kernel_rfl) ?hq428 (Or.inl ⟨?hw428, ?hy428⟩) (by assumption) ?r428
 case hi428 => (simp only [List.getElem?_toArray, List.getElem?_cons_succ, List.getElem?_cons_zero]; exact rfl)
 case hq428 => exact fun _ _ _ h => h
 case hw428 => rfl
 case hy428 => (intro w hSw; (try dsimp only at hSw); go_simp; try exact rfl)
 simp only [Act.put, List.setIfInBounds_toArray, List.set_cons_zero, List.set_cons_succ]
 refine wpAnyH_take (i := 20) (oi := ?o429) (v := ?v429) ?hi429 (by kernel_rfl) (by kernel_rfl) (by kernel_rfl) ?hq429 (Or.inl ⟨?hw429, ?hy429⟩) (by assumption) ?r429
 case hi429 => (simp only [List.getElem?_toArray, List.getElem?_cons_succ, List.getElem?_cons_zero]; exact rfl)
 case hq429 => exact fun _ _ _ h => h
 case hw429 => rfl
 case hy429 => (intro w hSw; (try dsimp only at hSw); go_simp; try exact rfl)
 simp only [Act.put, List.setIfInBounds_toArray, List.set_cons_zero, List.set_cons_succ]
 refine wpAnyH_ready (rs := [16]) (by kernel_rfl) (by simp) ?_
 refine AllReadyH.cons (o := ?o446) ?hi446 (fun K hK => ?_) AllReadyH.nil
 case hi446 => (simp only [List.getElem?_toArray, List.getElem?_cons_succ, List.getElem?_cons_zero]; exact rfl)
 go_simp
 go_at_call 25
 refine CR.out.mono ?_
 rintro e w3 ⟨A3, c3, rfl, hc3, hcm3, r3, b3, -⟩
 have SY3 := Kept.mk (SY2.out.keep api.base (barOf b3 []) (fun _ _ => by simp))
 obtain ⟨Aw, cw, ew, -, -, rwx⟩ := (PT.out.2.2.2.keep (barOf b3 []) (fun _ _ => by simp)).rws
 injection ew with e1 e2 e3
 subst e1 e3
 have CL := lists_any A3 Av v.recs.length v.recs.length c3 cv _ _ w3 r3 rwx (by omega)
 rw [like_rows] at CL
 have CL2 := Kept.mk CL
 have B3 := Kept.mk b3
 refine hK.out _ _ (KX.out _ b3) (fun _ => ?_)
 clear hK K CR CL SY2 R2 r3 rwx b3 hHeld e2
 try simp only [Act.put, List.setIfInBounds_toArray, List.set_cons_zero, List.set_cons_succ]
 refine wpAnyH_ready (rs := [21]) (by kernel_rfl) (by simp) ?_
 refine AllReadyH.cons (o := ?o447) ?hi447 (fun K hK => ?_) AllReadyH.nil
 case hi447 => (simp only [List.getElem?_toArray, List.getElem?_cons_succ, List.getElem?_cons_zero]; exact rfl)
 go_simp
 go_at_call 51
 refine CL2.out.mono ?_
 rintro e w4 ⟨rfl, b4⟩
 have SY4 := Kept.mk (SY3.out.keep api.base (barOf b4 []) (fun _ _ => by simp))
 have B4 := Kept.mk (B3.out.trans (b4.mono B3.out.size))
 have CG := Kept.mk (api.gen SY4.out)
 refine hK.out _ _ (KX.out _ B4.out) (fun _ => ?_)
 clear hK K CL2 SY3 B3 b4
 try simp only [Act.put, List.setIfInBounds_toArray, List.set_cons_zero, List.set_cons_succ]
 refine wpAnyH_take (i := 22) (oi := ?o430) (v := ?v430) ?hi430 (by kernel_rfl) (by kernel_rfl) (by kernel_rfl) ?hq430 (Or.inl ⟨?hw430, ?hy430⟩) (by assumption) ?r430
 case hi430 => (simp only [List.getElem?_toArray, List.getElem?_cons_succ, List.getElem?_cons_zero]; exact rfl)
 case hq430 => exact fun _ _ _ h => h
 case hw430 => rfl
 case hy430 => (intro w hSw; (try dsimp only at hSw); go_simp; try exact rfl)
 simp only [Act.put, List.setIfInBounds_toArray, List.set_cons_zero, List.set_cons_succ]
 refine wpAnyH_take (i := 23) (oi := ?o431) (v := ?v431) ?hi431 (by kernel_rfl) (by kernel_rfl) (by kernel_rfl) ?hq431 (Or.inl ⟨?hw431, ?hy431⟩) (by assumption) ?r431
 case hi431 => (simp only [List.getElem?_toArray, List.getElem?_cons_succ, List.getElem?_cons_zero]; exact rfl)
 case hq431 => exact fun _ _ _ h => h
 case hw431 => rfl
 case hy431 => (intro w hSw; (try dsimp only at hSw); go_simp; try exact rfl)
 simp only [Act.put, List.setIfInBounds_toArray, List.set_cons_zero, List.set_cons_succ]
 refine wpAnyH_take (i := 24) (oi := ?o432) (v := ?v432) ?hi432 (by kernel_rfl) (by kernel_rfl) (by kernel_rfl) ?hq432 (Or.inl ⟨?hw432, ?hy432⟩) (by assumption) ?r432
 case hi432 => (simp only [List.getElem?_toArray, List.getElem?_cons_succ, List.getElem?_cons_zero]; exact rfl)
 case hq432 => exact fun _ _ _ h => h
 case hw432 => rfl
 case hy432 => (intro w hSw; (try dsimp only at hSw); go_simp; try exact rfl)
 simp only [Act.put, List.setIfInBounds_toArray, List.set_cons_zero, List.set_cons_succ]
 refine wpAnyH_take (i := 26) (oi := ?o433) (v := ?v433) ?hi433 (by kernel_rfl) (by kernel_rfl) (by kernel_rfl) ?hq433 (Or.inl ⟨?hw433, ?hy433⟩) (by assumption) ?r433
 case hi433 => (simp only [List.getElem?_toArray, List.getElem?_cons_succ, List.getElem?_cons_zero]; exact rfl)
 case hq433 => exact fun _ _ _ h => h
 case hw433 => rfl
 case hy433 => (intro w hSw; (try dsimp only at hSw); go_simp; try exact rfl)
 simp only [Act.put, List.setIfInBounds_toArray, List.set_cons_zero, List.set_cons_succ]
 refine wpAnyH_take (i := 27) (oi := ?o434) (v := ?v434) ?hi434 (by kernel_rfl) (by kernel_rfl) (by kernel_rfl) ?hq434 (Or.inl ⟨?hw434, ?hy434⟩) (by assumption) ?r434
 case hi434 => (simp only [List.getElem?_toArray, List.getElem?_cons_succ, List.getElem?_cons_zero]; exact rfl)
 case hq434 => exact fun _ _ _ h => h
 case hw434 => rfl
 case hy434 => (intro w hSw; (try dsimp only at hSw); go_simp; try exact rfl)
 simp only [Act.put, List.setIfInBounds_toArray, List.set_cons_zero, List.set_cons_succ]
 refine wpAnyH_take (i := 28) (oi := ?o435) (v := ?v435) ?hi435 (by kernel_rfl) (by kernel_rfl) (by kernel_rfl) ?hq435 (Or.inl ⟨?hw435, ?hy435⟩) (by assumption) ?r435
 case hi435 => (simp only [List.getElem?_toArray, List.getElem?_cons_succ, List.getElem?_cons_zero]; exact rfl)
 case hq435 => exact fun _ _ _ h => h
 case hw435 => rfl
 case hy435 => (intro w hSw; (try dsimp only at hSw); go_simp; try exact rfl)
 simp only [Act.put, List.setIfInBounds_toArray, List.set_cons_zero, List.set_cons_succ]
 refine wpAnyH_take (i := 29) (oi := ?o436) (v := ?v436) ?hi436 (by kernel_rfl) (by kernel_rfl) (by kernel_rfl) ?hq436 (Or.inl ⟨?hw436, ?hy436⟩) (by assumption) ?r436
 case hi436 => (simp only [List.getElem?_toArray, List.getElem?_cons_succ, List.getElem?_cons_zero]; exact rfl)
 case hq436 => exact fun _ _ _ h => h
 case hw436 => rfl
 case hy436 => (intro w hSw; (try dsimp only at hSw); go_simp; try exact rfl)
 simp only [Act.put, List.setIfInBounds_toArray, List.set_cons_zero, List.set_cons_succ]
 refine wpAnyH_ready (rs := [25]) (by kernel_rfl) (by simp) ?_
 refine AllReadyH.cons (o := ?o448) ?hi448 (fun K hK => ?_) AllReadyH.nil
 case hi448 => (simp only [List.getElem?_toArray, List.getElem?_cons_succ, List.getElem?_cons_zero]; exact rfl)
 go_simp
 go_at_call 26
 refine CG.out.mono ?_
 rintro e w5 ⟨rfl, b5⟩
 have SY5 := Kept.mk (SY4.out.keep api.base (barOf b5 []) (fun _ _ => by simp))
 have B5 := Kept.mk (B4.out.trans (b5.mono B4.out.size))
 have CM := Kept.mk (api.room SY5.out HD.out)
 refine hK.out _ _ (KX.out _ B5.out) (fun _ => ?_)
 clear hK K CG SY4 B4 b5
 try simp only [Act.put, List.setIfInBounds_toArray, List.set_cons_zero, List.set_cons_succ]
 obtain ⟨rm, hrm⟩ : ∃ q, roomJ s v = q := ⟨_, rfl⟩
 rw [hrm] at CM
 refine wpAnyH_take (i := 30) (oi := ?o437) (v := ?v437) ?hi437 (by kernel_rfl) (by kernel_rfl) (by kernel_rfl) ?hq437 (Or.inl ⟨?hw437, ?hy437⟩) (by assumption) ?r437
 case hi437 => (simp only [List.getElem?_toArray, List.getElem?_cons_succ, List.getElem?_cons_zero]; exact rfl)
 case hq437 => exact fun _ _ _ h => h
 case hw437 => rfl
 case hy437 => (intro w hSw; (try dsimp only at hSw); go_simp; try exact rfl)
 simp only [Act.put, List.setIfInBounds_toArray, List.set_cons_zero, List.set_cons_succ]
 refine wpAnyH_take (i := 31) (oi := ?o438) (v := ?v438) ?hi438 (by kernel_rfl) (by kernel_rfl) (by kernel_rfl) ?hq438 (Or.inl ⟨?hw438, ?hy438⟩) (by assumption) ?r438
 case hi438 => (simp only [List.getElem?_toArray, List.getElem?_cons_succ, List.getElem?_cons_zero]; exact rfl)
 case hq438 => exact fun _ _ _ h => h
 case hw438 => rfl
 case hy438 => (intro w hSw; (try dsimp only at hSw); go_simp; try exact rfl)
 simp only [Act.put, List.setIfInBounds_toArray, List.set_cons_zero, List.set_cons_succ]
 refine wpAnyH_take (i := 32) (oi := ?o439) (v := ?v439) ?hi439 (by kernel_rfl) (by kernel_rfl) (by kernel_rfl) ?hq439 (Or.inl ⟨?hw439, ?hy439⟩) (by assumption) ?r439
 case hi439 => (simp only [List.getElem?_toArray, List.getElem?_cons_succ, List.getElem?_cons_zero]; exact rfl)
 case hq439 => exact fun _ _ _ h => h
 case hw439 => rfl
 case hy439 => (intro w hSw; (try dsimp only at hSw); go_simp; try exact rfl)
 simp only [Act.put, List.setIfInBounds_toArray, List.set_cons_zero, List.set_cons_succ]
 refine wpAnyH_take (i := 33) (oi := ?o440) (v := ?v440) ?hi440 (by kernel_rfl) (by kernel_rfl) (by kernel_rfl) ?hq440 (Or.inl ⟨?hw440, ?hy440⟩) (by assumption) ?r440
 case hi440 => (simp only [List.getElem?_toArray, List.getElem?_cons_succ, List.getElem?_cons_zero]; exact rfl)
 case hq440 => exact fun _ _ _ h => h
 case hw440 => rfl
 case hy440 => (intro w hSw; (try dsimp only at hSw); go_simp; try exact rfl)
 simp only [Act.put, List.setIfInBounds_toArray, List.set_cons_zero, List.set_cons_succ]
 refine wpAnyH_take (i := 35) (oi := ?o441) (v := ?v441) ?hi441 (by kernel_rfl) (by kernel_rfl) (by kernel_rfl) ?hq441 (Or.inl ⟨?hw441, ?hy441⟩) (by assumption) ?r441
 case hi441 => (simp only [List.getElem?_toArray, List.getElem?_cons_succ, List.getElem?_cons_zero]; exact rfl)
 case hq441 => exact fun _ _ _ h => h
 case hw441 => rfl
 case hy441 => (intro w hSw; (try dsimp only at hSw); go_simp; try exact rfl)
 simp only [Act.put, List.setIfInBounds_toArray, List.set_cons_zero, List.set_cons_succ]
 refine wpAnyH_ready (rs := [34]) (by kernel_rfl) (by simp) ?_
 refine AllReadyH.cons (o := ?o449) ?hi449 (fun K hK => ?_) AllReadyH.nil
 case hi449 => (simp only [List.getElem?_toArray, List.getElem?_cons_succ, List.getElem?_cons_zero]; exact rfl)
 go_simp
 go_at_call 27
 refine CM.out.mono ?_
 rintro e w6 ⟨rfl, b6⟩
 have B6 := Kept.mk (B5.out.trans (b6.mono B5.out.size))
 have CX := rroom_any (PT.out.1.below B6.out) (PT.out.2.1.below B6.out xlt) VK.out
 rw [hrm] at CX
 have CX2 := Kept.mk CX
 refine hK.out _ _ (KX.out _ B6.out) (fun _ => ?_)
 clear hK K CM CX SY5 B5 b6 hrm
 try simp only [Act.put, List.setIfInBounds_toArray, List.set_cons_zero, List.set_cons_succ]
 refine wpAnyH_ready (rs := [36]) (by kernel_rfl) (by simp) ?_
 refine AllReadyH.cons (o := ?o450) ?hi450 (fun K hK => ?_) AllReadyH.nil
 case hi450 => (simp only [List.getElem?_toArray, List.getElem?_cons_succ, List.getElem?_cons_zero]; exact rfl)
 go_simp
 go_at_call 38
 refine CX2.out.mono ?_
 rintro e w7 ⟨rfl, b7⟩
 have B7 := Kept.mk (B6.out.trans (b7.mono B6.out.size))
 have BW := Kept.mk (B2.out.trans (B7.out.mono B2.out.size))
 refine hK.out _ _ (KX.out _ B7.out) (fun _ => ?_)
 clear hK K CX2 B6 b7 KX B2 PT VK HD
 try simp only [Act.put, List.setIfInBounds_toArray, List.set_cons_zero, List.set_cons_succ]
 refine wpAnyH_take (i := 37) (oi := ?o442) (v := ?v442) ?hi442 (by kernel_rfl) (by kernel_rfl) (by kernel_rfl) ?hq442 (Or.inl ⟨?hw442, ?hy442⟩) (by assumption) ?r442
 case hi442 => (simp only [List.getElem?_toArray, List.getElem?_cons_succ, List.getElem?_cons_zero]; exact rfl)
 case hq442 => exact fun _ _ _ h => h
 case hw442 => rfl
 case hy442 => (intro w hSw; (try dsimp only at hSw); go_simp; try exact rfl)
 simp only [Act.put, List.setIfInBounds_toArray, List.set_cons_zero, List.set_cons_succ]
 refine wpAnyH_take (i := 38) (oi := ?o443) (v := ?v443) ?hi443 (by kernel_rfl) (by kernel_rfl) (by kernel_rfl) ?hq443 (Or.inl ⟨?hw443, ?hy443⟩) (by assumption) ?r443
 case hi443 => (simp only [List.getElem?_toArray, List.getElem?_cons_succ, List.getElem?_cons_zero]; exact rfl)
 case hq443 => exact fun _ _ _ h => h
 case hw443 => rfl
 case hy443 => (intro w hSw; (try dsimp only at hSw); go_simp; try exact rfl)
 simp only [Act.put, List.setIfInBounds_toArray, List.set_cons_zero, List.set_cons_succ]
 refine wpAnyH_take (i := 39) (oi := ?o444) (v := ?v444) ?hi444 (by kernel_rfl) (by kernel_rfl) (by kernel_rfl) ?hq444 (Or.inl ⟨?hw444, ?hy444⟩) (by assumption) ?r444
 case hi444 => (simp only [List.getElem?_toArray, List.getElem?_cons_succ, List.getElem?_cons_zero]; exact rfl)
 case hq444 => exact fun _ _ _ h => h
 case hw444 => rfl
 case hy444 => (intro w hSw; (try dsimp only at hSw); go_simp; try exact rfl)
 simp only [Act.put, List.setIfInBounds_toArray, List.set_cons_zero, List.set_cons_succ]
 refine wpAnyH_done (by kernel_rfl) ?_ _
 refine NoPanic.normal ?_
 go_wp2
 go_ret
 exact ⟨rfl, BW.out⟩
end Go.Proofs.YtkbehjdglgpgjaaGreat.Journal
