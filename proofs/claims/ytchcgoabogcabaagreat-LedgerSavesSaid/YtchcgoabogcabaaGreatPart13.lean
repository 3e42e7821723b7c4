/-
  Parts laid together: LedgerR1.
-/
import Derived.Test.YtchcgoabogcabaaGreatPart1
import Derived.Test.YtchcgoabogcabaaGreatPart10
import Derived.Deep.RegionHeld3
namespace Go.Proofs.YtchcgoabogcabaaGreat.Ledger
open Go.RowKit Go.Proofs.YtchcgoabogcabaaGreat.Num Go.Proofs.YtchcgoabogcabaaGreat.Sha Go.Proofs.YtchcgoabogcabaaGreat.Purse Go.Proofs.YtchcgoabogcabaaGreat.Escrow Go.Proofs.YtchcgoabogcabaaGreat.Wire Go.Proofs.YtchcgoabogcabaaGreat.Req
section
variable {w : World} {x b q : Nat} {F F0 : List Nat} {st d d1 d2 : Value} {s : LS}
set_option maxRecDepth 100000 in
set_option maxHeartbeats 1000000 in
theorem rfull_any (k:Nat) (hk:k≤2) (W:WL s) (h:Dp w F0 x b q st d d1 d2 s):Calls Tryz.prog 76 #[.pointer (some ⟨x,0,none⟩),.int .i64 k] w (TellB (.bool (!roomL s k)) w):=by
 obtain⟨A,c,rfl,x3,hc,hcm,-⟩:=h.events
 have hr:=W.room;have hcap:=W.cap
 have h0:0≤openB s.b:=by unfold openB;omega
 have H:=Kept.mk h
 have KO:=Kept.mk (ropen_any (h.bk.below (Below.refl _ _).drew))
 obtain⟨n,hn⟩:∃ n,s.e.length=n:=⟨_,rfl⟩
 obtain⟨o,ho⟩:∃ o,openB s.b=o:=⟨_,rfl⟩
 obtain⟨m,hm⟩:∃ m,s.cap=m:=⟨_,rfl⟩
 have RK:(!roomL s k)=decide ((n:Int)+o+k > m):=by
  unfold roomL
  rw[hn,ho,hm]
  by_cases j:(n:Int)+o+k≤m
  ·rw[decide_eq_true j,decide_eq_false (by omega)];rfl
  ·rw[decide_eq_false j,decide_eq_true (by omega)];rfl
 rw[RK]
 rw[ho,hn,hm] at hr
 rw[ho] at h0 KO
 have CS:∀ {u:World},Dp u F0 x b q st (.slice A s.e.length c) d1 d2 s→u.cell? ⟨x,4,none⟩=some (.slice A n c)∧u.cell? ⟨x,2,none⟩=some (.pointer (some ⟨b,0,none⟩))∧u.cell? ⟨x,1,none⟩=some (.int .i64 m):=fun h=>⟨by rw[← hn];exact h.blk.cell 4,h.c2,by rw[← hm];exact h.c1⟩
 rw[hm] at hcap
 rw[hn] at hc
 have W1:IntKind.i64.wrap ((n:Int)+o)=n+o:=by simp only[IntKind.wrap_i64];omega
 have W2:IntKind.i64.wrap ((n:Int)+o+k)=n+o+k:=by simp only[IntKind.wrap_i64];omega
 clear h RK x3 hn ho hm W hr hcap h0
 go_enter Tryz.func76,Tryz.ntmps76
 go_upto_region 1 with(fail)
 refine wp_region_noPanic ?_
 refine wp_region_held_drew (S:=fun u:World=>u.cell? ⟨x,4,none⟩=some (.slice A n c)∧u.cell? ⟨x,2,none⟩=some (.pointer (some ⟨b,0,none⟩))∧u.cell? ⟨x,1,none⟩=some (.int .i64 m)) (by kernel_rfl) (CS (H.out.below (Below.refl _ _).drew)) (fun _=>?_)
 refine tk 0 (by assumption) ?_
 simp only[Act.put,zA,zB,zC]
 refine tk 1 (by assumption) ?_
 simp only[Act.put,zA,zB,zC]
 refine tk 2 (by assumption) ?_
 simp only[Act.put,zA,zB,zC]
 refine tk 3 (by assumption) ?_
 simp only[Act.put,zA,zB,zC]
 refine tk 4 (by assumption) ?_
 simp only[Act.put,zA,zB,zC]
 refine tk 5 (by assumption) ?_
 simp only[Act.put,zA,zB,zC]
 refine tk 6 (by assumption) ?_
 simp only[Act.put,zA,zB,zC]
 refine tk 7 (by assumption) ?_
 simp only[Act.put,zA,zB,zC]
 refine tk 8 (by assumption) ?_
 simp only[Act.put,zA,zB,zC]
 refine tk 11 (by assumption) ?_
 simp only[Act.put,zA,zB,zC]
 refine tk 13 (by assumption) ?_
 simp only[Act.put,zA,zB,zC]
 refine tk 14 (by assumption) ?_
 simp only[Act.put,zA,zB,zC]
 refine tk 15 (by assumption) ?_
 simp only[Act.put,zA,zB,zC]
 refine tk 16 (by assumption) ?_
 simp only[Act.put,zA,zB,zC]
 refine tk 17 (by assumption) ?_
 simp only[Act.put,zA,zB,zC]
 refine ld 9 (fun K hK=>?_)
 go_simp
 go_at_call 102
 refine KO.out.mono ?_
 rintro e w1 ⟨rfl,rfl⟩
 refine hK.out _ _ (CS (H.out.below (Below.refl _ _).drew)) (fun _=>?_)
 clear hK K KO
 refine tk 10 (by assumption) ?_
 simp only[Act.put,zA,zB,zC]
 refine tk 12 (by assumption) ?_
 simp only[Act.put,zA,zB,zC]
 refine tk 18 (by assumption) ?_
 simp only[Act.put,zA,zB,zC]
 refine tk 19 (by assumption) ?_
 simp only[Act.put,zA,zB,zC]
 refine wpAnyH_done (by kernel_rfl) ?_ _
 refine NoPanic.normal ?_
 go_wp2
 go_ret
 exact⟨rfl,(Below.refl _ _).drew⟩
end
end Go.Proofs.YtchcgoabogcabaaGreat.Ledger
