/-
  Parts laid together: LedgerC9 LedgerC10 LedgerApi.
-/
import Derived.Test.YtchcgoabogcabaaGreatPart41
import Derived.Test.YtchcgoabogcabaaGreatPart22
import Derived.Test.YtchcgoabogcabaaGreatPart16
import Derived.Test.YtchcgoabogcabaaGreatPart42
import Derived.Test.YtchcgoabogcabaaGreatPart12
import Derived.Test.YtchcgoabogcabaaGreatPart8
import Derived.Test.YtchcgoabogcabaaGreatPart43
namespace Go.Proofs.YtchcgoabogcabaaGreat.Ledger
open Go.RowKit Go.Proofs.YtchcgoabogcabaaGreat.Num Go.Proofs.YtchcgoabogcabaaGreat.Sha Go.Proofs.YtchcgoabogcabaaGreat.Purse Go.Proofs.YtchcgoabogcabaaGreat.Escrow Go.Proofs.YtchcgoabogcabaaGreat.Wire Go.Proofs.YtchcgoabogcabaaGreat.Req
set_option maxRecDepth 100000 in
set_option maxHeartbeats 1000000 in
theorem behind_any (k:Int) (w:World):Calls Tryz.prog 84 #[.int .i64 k] w fun e w'=>e=.returned (.int .i64 (bhL k:Nat))∧w=w':=by
 unfold bhL
 by_cases h1:k=1
 ·subst h1
  rw[if_pos rfl]
  go_enter Tryz.func84,Tryz.ntmps84
  go_wp2
  go_ret
  exact⟨rfl,rfl⟩
 ·rw[if_neg h1]
  have h1':(k == 1)=false:=beq_eq_false_iff_ne.2 h1
  by_cases h2:k=2
  ·subst h2
   rw[if_pos rfl]
   go_enter Tryz.func84,Tryz.ntmps84
   go_wp2
   go_ret
   exact⟨rfl,rfl⟩
  ·rw[if_neg h2]
   have h2':(k == 2)=false:=beq_eq_false_iff_ne.2 h2
   by_cases h3:k=3
   ·subst h3
    rw[if_pos rfl]
    go_enter Tryz.func84,Tryz.ntmps84
    go_wp2
    go_ret
    exact⟨rfl,rfl⟩
   ·rw[if_neg h3]
    have h3':(k == 3)=false:=beq_eq_false_iff_ne.2 h3
    by_cases h4:k=4
    ·subst h4
     rw[if_pos rfl]
     go_enter Tryz.func84,Tryz.ntmps84
     go_wp2
     go_ret
     exact⟨rfl,rfl⟩
    ·rw[if_neg h4]
     have h4':(k == 4)=false:=beq_eq_false_iff_ne.2 h4
     go_enter Tryz.func84,Tryz.ntmps84
     go_wp2
     go_ret
     exact⟨rfl,rfl⟩
theorem creq_size2:(Tryz.prog.info? 65).map (·.size)=some 8:=by kernel_rfl
set_option maxRecDepth 100000 in
set_option maxHeartbeats 2000000 in
theorem request_any {w:World}(V:VV):Calls Tryz.prog 52 #[vqv V] w (TellB (rqv (reqOf V)) w):=by
 obtain⟨ek,es,ed,ea,en,ei,eu,eh,ec⟩:=V
 unfold vqv rqv reqOf
 dsimp only
 obtain⟨N,hN⟩:∃ N,w.heap.size=N:=⟨_,rfl⟩
 obtain⟨R,hR⟩:∃ R,(w.alloc (.cells #[.int .i64 ek,.int .i64 es,.int .i64 ed,.int .i64 ea,.int .i64 en,.int .i64 ei,.int .i64 eu,.string (strOfNums eh),.string (strOfNums ec)] 71)).heap.size=R:=⟨_,rfl⟩
 have b0:Below w.heap.size w (w.alloc (.cells #[.int .i64 ek,.int .i64 es,.int .i64 ed,.int .i64 ea,.int .i64 en,.int .i64 ei,.int .i64 eu,.string (strOfNums eh),.string (strOfNums ec)] 71)):=(Below.refl _ _).alloc (Nat.le_refl _) _
 have x0:Blk (w.alloc (.cells #[.int .i64 ek,.int .i64 es,.int .i64 ed,.int .i64 ea,.int .i64 en,.int .i64 ei,.int .i64 eu,.string (strOfNums eh),.string (strOfNums ec)] 71)) N 71 #[.int .i64 ek,.int .i64 es,.int .i64 ed,.int .i64 ea,.int .i64 en,.int .i64 ei,.int .i64 eu,.string (strOfNums eh),.string (strOfNums ec)]:=Blk.new_at w _ _ N hN.symm
 have b1:Below (w.alloc (.cells #[.int .i64 ek,.int .i64 es,.int .i64 ed,.int .i64 ea,.int .i64 en,.int .i64 ei,.int .i64 eu,.string (strOfNums eh),.string (strOfNums ec)] 71)).heap.size (w.alloc (.cells #[.int .i64 ek,.int .i64 es,.int .i64 ed,.int .i64 ea,.int .i64 en,.int .i64 ei,.int .i64 eu,.string (strOfNums eh),.string (strOfNums ec)] 71)) ((w.alloc (.cells #[.int .i64 ek,.int .i64 es,.int .i64 ed,.int .i64 ea,.int .i64 en,.int .i64 ei,.int .i64 eu,.string (strOfNums eh),.string (strOfNums ec)] 71)).alloc (.cells #[.int .i64 0,.int .i64 0,.int .i64 0,.int .i64 0,.int .i64 0,.int .i64 0,.string ⟨#[]⟩,.string ⟨#[]⟩] 65)):=(Below.refl _ _).alloc (Nat.le_refl _) _
 have Y:Kept (Blk ((w.alloc (.cells #[.int .i64 ek,.int .i64 es,.int .i64 ed,.int .i64 ea,.int .i64 en,.int .i64 ei,.int .i64 eu,.string (strOfNums eh),.string (strOfNums ec)] 71)).alloc (.cells #[.int .i64 0,.int .i64 0,.int .i64 0,.int .i64 0,.int .i64 0,.int .i64 0,.string ⟨#[]⟩,.string ⟨#[]⟩] 65)) R 65 #[.int .i64 0,.int .i64 0,.int .i64 0,.int .i64 0,.int .i64 0,.int .i64 0,.string ⟨#[]⟩,.string ⟨#[]⟩]):=⟨Blk.new_at _ _ _ R hR.symm⟩
 have X:Kept (Blk ((w.alloc (.cells #[.int .i64 ek,.int .i64 es,.int .i64 ed,.int .i64 ea,.int .i64 en,.int .i64 ei,.int .i64 eu,.string (strOfNums eh),.string (strOfNums ec)] 71)).alloc (.cells #[.int .i64 0,.int .i64 0,.int .i64 0,.int .i64 0,.int .i64 0,.int .i64 0,.string ⟨#[]⟩,.string ⟨#[]⟩] 65)) N 71 #[.int .i64 ek,.int .i64 es,.int .i64 ed,.int .i64 ea,.int .i64 en,.int .i64 ei,.int .i64 eu,.string (strOfNums eh),.string (strOfNums ec)]):=⟨x0.below b1 x0.lt⟩
 have B:Kept (Below w.heap.size w ((w.alloc (.cells #[.int .i64 ek,.int .i64 es,.int .i64 ed,.int .i64 ea,.int .i64 en,.int .i64 ei,.int .i64 eu,.string (strOfNums eh),.string (strOfNums ec)] 71)).alloc (.cells #[.int .i64 0,.int .i64 0,.int .i64 0,.int .i64 0,.int .i64 0,.int .i64 0,.string ⟨#[]⟩,.string ⟨#[]⟩] 65))):=⟨b0.trans (b1.mono b0.size)⟩
 have NR:Kept (N < R∧w.heap.size≤N):=⟨by rw[← hR];exact x0.lt,by omega⟩
 clear b0 b1 x0
 go_enter Tryz.func52,Tryz.ntmps52
 go_upto_region 1 with(fail)
 generalize ((w.alloc (.cells #[.int .i64 ek,.int .i64 es,.int .i64 ed,.int .i64 ea,.int .i64 en,.int .i64 ei,.int .i64 eu,.string (strOfNums eh),.string (strOfNums ec)] 71)).alloc (.cells #[.int .i64 0,.int .i64 0,.int .i64 0,.int .i64 0,.int .i64 0,.int .i64 0,.string ⟨#[]⟩,.string ⟨#[]⟩] 65))=w1 at *
 obtain⟨M,hM⟩:∃ M,w1.heap.size=M:=⟨_,rfl⟩
 have b2:Below w1.heap.size w1 (w1.alloc (.cells #[.int .i64 ek,.int .i64 ed,.int .i64 ea,.int .i64 en,.int .i64 ei,.int .i64 eu,.string (strOfNums eh),.string (strOfNums ec)] 65)):=(Below.refl _ _).alloc (Nat.le_refl _) _
 have Z:Kept (Blk (w1.alloc (.cells #[.int .i64 ek,.int .i64 ed,.int .i64 ea,.int .i64 en,.int .i64 ei,.int .i64 eu,.string (strOfNums eh),.string (strOfNums ec)] 65)) M 65 #[.int .i64 ek,.int .i64 ed,.int .i64 ea,.int .i64 en,.int .i64 ei,.int .i64 eu,.string (strOfNums eh),.string (strOfNums ec)]):=⟨Blk.new_at _ _ _ M hM.symm⟩
 have RM:Kept (R < M):=⟨by rw[← hM];exact Y.out.lt⟩
 have y0:w1.cell? ⟨N,0,none⟩=some (.int .i64 ek):=X.out.cell 0;have y1:w1.cell? ⟨N,1,none⟩=some (.int .i64 es):=X.out.cell 1;have y2:w1.cell? ⟨N,2,none⟩=some (.int .i64 ed):=X.out.cell 2;have y3:w1.cell? ⟨N,3,none⟩=some (.int .i64 ea):=X.out.cell 3;have y4:w1.cell? ⟨N,4,none⟩=some (.int .i64 en):=X.out.cell 4;have y5:w1.cell? ⟨N,5,none⟩=some (.int .i64 ei):=X.out.cell 5;have y6:w1.cell? ⟨N,6,none⟩=some (.int .i64 eu):=X.out.cell 6;have y7:w1.cell? ⟨N,7,none⟩=some (.string (strOfNums eh)):=X.out.cell 7;have y8:w1.cell? ⟨N,8,none⟩=some (.string (strOfNums ec)):=X.out.cell 8
 go_upto_region 2 with(fail)
 replace X:=Kept.mk (X.out.below b2 X.out.lt);replace Y:=Kept.mk (Y.out.below b2 Y.out.lt);replace B:=Kept.mk (B.out.trans (b2.mono B.out.size))
 clear y0 y1 y2 y3 y4 y5 y6 y7 y8 b2
 generalize (w1.alloc (.cells #[.int .i64 ek,.int .i64 ed,.int .i64 ea,.int .i64 en,.int .i64 ei,.int .i64 eu,.string (strOfNums eh),.string (strOfNums ec)] 65))=w2 at *
 have hRM:R≠M:=by have:=RM.out;omega
 have hMR:M≠R:=by have:=RM.out;omega
 have WM:Kept (w.heap.size≤M∧w.heap.size≤R):=⟨by have:=RM.out;have:=NR.out;omega,by have:=NR.out;omega⟩
 have y0:w2.cell? ⟨N,0,none⟩=some (.int .i64 ek):=X.out.cell 0
 by_cases hk:ek=2
 ·subst hk
  rw[if_pos rfl]
  have y4:w2.cell? ⟨M,4,none⟩=some (.int .i64 ei):=Z.out.cell 4
  have z4:=Z.out.frozen 4
  go_upto_region 4 with(fail)
  have PB:Kept (Bar [M] w2 (w2.setCell ⟨M,4,none⟩ (.int .i64 0))):=⟨(Bar.refl [M] w2).setCell (p:=⟨M,4,none⟩) (.inl (by simp)) _⟩
  replace Z:Kept (Blk (w2.setCell ⟨M,4,none⟩ (.int .i64 0)) M 65 #[.int .i64 2,.int .i64 ed,.int .i64 ea,.int .i64 en,.int .i64 0,.int .i64 eu,.string (strOfNums eh),.string (strOfNums ec)]):=⟨Z.out.set_ 4 (.int .i64 0)⟩
  replace Y:=Kept.mk (Y.out.bar PB.out (by simpa using hRM));replace B:=Kept.mk (B.out.trans (PB.out.below B.out.size (by simpa using WM.out.1)))
  clear PB y4 z4 y0
  generalize w2.setCell ⟨M,4,none⟩ (.int .i64 0)=w3 at *
  have m0:w3.cell? ⟨M,0,none⟩=some (.int .i64 2):=Z.out.cell 0;have m1:w3.cell? ⟨M,1,none⟩=some (.int .i64 ed):=Z.out.cell 1;have m2:w3.cell? ⟨M,2,none⟩=some (.int .i64 ea):=Z.out.cell 2;have m3:w3.cell? ⟨M,3,none⟩=some (.int .i64 en):=Z.out.cell 3;have m4:w3.cell? ⟨M,4,none⟩=some (.int .i64 0):=Z.out.cell 4;have m5:w3.cell? ⟨M,5,none⟩=some (.int .i64 eu):=Z.out.cell 5;have m6:w3.cell? ⟨M,6,none⟩=some (.string (strOfNums eh)):=Z.out.cell 6;have m7:w3.cell? ⟨M,7,none⟩=some (.string (strOfNums ec)):=Z.out.cell 7
  have y0:w3.cell? ⟨R,0,none⟩=some (.int .i64 0):=Y.out.cell 0;have z0:=Y.out.frozen 0;have y1:w3.cell? ⟨R,1,none⟩=some (.int .i64 0):=Y.out.cell 1;have z1:=Y.out.frozen 1;have y2:w3.cell? ⟨R,2,none⟩=some (.int .i64 0):=Y.out.cell 2;have z2:=Y.out.frozen 2;have y3:w3.cell? ⟨R,3,none⟩=some (.int .i64 0):=Y.out.cell 3;have z3:=Y.out.frozen 3;have y4:w3.cell? ⟨R,4,none⟩=some (.int .i64 0):=Y.out.cell 4;have z4:=Y.out.frozen 4;have y5:w3.cell? ⟨R,5,none⟩=some (.int .i64 0):=Y.out.cell 5;have z5:=Y.out.frozen 5;have y6:w3.cell? ⟨R,6,none⟩=some (.string ⟨#[]⟩):=Y.out.cell 6;have z6:=Y.out.frozen 6;have y7:w3.cell? ⟨R,7,none⟩=some (.string ⟨#[]⟩):=Y.out.cell 7;have z7:=Y.out.frozen 7
  have PP:=Kept.mk (put8 Y.out (.int .i64 2) (.int .i64 ed) (.int .i64 ea) (.int .i64 en) (.int .i64 0) (.int .i64 eu) (.string (strOfNums eh)) (.string (strOfNums ec)))
  clear X Z Y
  go_wp2
  (try simp only[Exit.inBlock,Exit.then])
  refine bodyPost_ret (results_cell_row rfl _ _ R 65 #[.int .i64 2,.int .i64 ed,.int .i64 ea,.int .i64 en,.int .i64 0,.int .i64 eu,.string (strOfNums eh),.string (strOfNums ec)] (0,0) _ rfl PP.out.1 Tryz.underlying65 rfl creq_size2) rfl ?_
  exact⟨rfl,B.out.trans (PP.out.2.below B.out.size (by simpa using WM.out.2))⟩
 ·rw[if_neg hk]
  have hk':(ek == 2)=false:=beq_eq_false_iff_ne.2 hk
  have m0:w2.cell? ⟨M,0,none⟩=some (.int .i64 ek):=Z.out.cell 0;have m1:w2.cell? ⟨M,1,none⟩=some (.int .i64 ed):=Z.out.cell 1;have m2:w2.cell? ⟨M,2,none⟩=some (.int .i64 ea):=Z.out.cell 2;have m3:w2.cell? ⟨M,3,none⟩=some (.int .i64 en):=Z.out.cell 3;have m4:w2.cell? ⟨M,4,none⟩=some (.int .i64 ei):=Z.out.cell 4;have m5:w2.cell? ⟨M,5,none⟩=some (.int .i64 eu):=Z.out.cell 5;have m6:w2.cell? ⟨M,6,none⟩=some (.string (strOfNums eh)):=Z.out.cell 6;have m7:w2.cell? ⟨M,7,none⟩=some (.string (strOfNums ec)):=Z.out.cell 7
  have v0:w2.cell? ⟨R,0,none⟩=some (.int .i64 0):=Y.out.cell 0;have z0:=Y.out.frozen 0;have v1:w2.cell? ⟨R,1,none⟩=some (.int .i64 0):=Y.out.cell 1;have z1:=Y.out.frozen 1;have v2:w2.cell? ⟨R,2,none⟩=some (.int .i64 0):=Y.out.cell 2;have z2:=Y.out.frozen 2;have v3:w2.cell? ⟨R,3,none⟩=some (.int .i64 0):=Y.out.cell 3;have z3:=Y.out.frozen 3;have v4:w2.cell? ⟨R,4,none⟩=some (.int .i64 0):=Y.out.cell 4;have z4:=Y.out.frozen 4;have v5:w2.cell? ⟨R,5,none⟩=some (.int .i64 0):=Y.out.cell 5;have z5:=Y.out.frozen 5;have v6:w2.cell? ⟨R,6,none⟩=some (.string ⟨#[]⟩):=Y.out.cell 6;have z6:=Y.out.frozen 6;have v7:w2.cell? ⟨R,7,none⟩=some (.string ⟨#[]⟩):=Y.out.cell 7;have z7:=Y.out.frozen 7
  have PP:=Kept.mk (put8 Y.out (.int .i64 ek) (.int .i64 ed) (.int .i64 ea) (.int .i64 en) (.int .i64 ei) (.int .i64 eu) (.string (strOfNums eh)) (.string (strOfNums ec)))
  clear X Z Y
  go_wp2
  (try simp only[Exit.inBlock,Exit.then])
  refine bodyPost_ret (results_cell_row rfl _ _ R 65 #[.int .i64 ek,.int .i64 ed,.int .i64 ea,.int .i64 en,.int .i64 ei,.int .i64 eu,.string (strOfNums eh),.string (strOfNums ec)] (0,0) _ rfl PP.out.1 Tryz.underlying65 rfl creq_size2) rfl ?_
  exact⟨rfl,B.out.trans (PP.out.2.below B.out.size (by simpa using WM.out.2))⟩
theorem own_of_blk {w:World}{M base n:Nat}{T:TypeId}{xs:List Int}(h:Blk w M T (arr .u8 xs)) (hl:xs.length=n) (hb:base≤M) (hn:n≤1000):w.ownsRow base T 1 (.slice (some ⟨M,0,none⟩) n n) n (ints .u8 xs):=by
 refine⟨by rw[ints_len];omega,.inr ⟨M,n,arr .u8 xs,rfl,hb,h,Nat.le_refl _,by unfold maxLen;omega,by rw[arr_size];omega,?_⟩⟩
 rw[show (arr .u8 xs).toList=ints .u8 xs from rfl]
 exact List.take_of_length_le (by rw[ints_len];omega)
def GetEvPost (d:Nat) (G:List Nat) (st:St) (w:World) (x:Ending) (w':World):Prop :=
 ∃ V ok,x=.returned (.tuple #[vqv V,.bool ok])∧EvAns (rawE st).1 V ok∧De 157 w' d G (rawE st).2∧Bar [d] w w'
set_option maxRecDepth 100000 in
set_option maxHeartbeats 3000000 in
theorem getev_any {w:World}{d:Nat}{G:List Nat}{st:St}(h:De 157 w d G st) (hd:d∉G):Calls Tryz.prog 51 #[.pointer (some ⟨d,0,none⟩)] w (GetEvPost d G st w):=by
 have hby:=h.bytes
 have hz:=decNum_size0 st hby
 have hb1:=decNum_bytes st 1 hby
 have RB:=rawE_bytes st hby
 have RR:rawE st=((decNum st 1).1 :: (iter (fun s=>decNum s 1) (bhL (decNum st 1).1) (decNum st 1).2).1,(iter (fun s=>decNum s 1) (bhL (decNum st 1).1) (decNum st 1).2).2):=rfl
 unfold GetEvPost
 rw[RR] at RB ⊢
 obtain⟨N,hN⟩:∃ N,w.heap.size=N:=⟨_,rfl⟩
 have b0:Below w.heap.size w (w.alloc (.cells #[.int .i64 0,.int .i64 0,.int .i64 0,.int .i64 0,.int .i64 0,.int .i64 0,.int .i64 0,.string ⟨#[]⟩,.string ⟨#[]⟩] 71)):=(Below.refl _ _).alloc (Nat.le_refl _) _
 have Y:Kept (Blk (w.alloc (.cells #[.int .i64 0,.int .i64 0,.int .i64 0,.int .i64 0,.int .i64 0,.int .i64 0,.int .i64 0,.string ⟨#[]⟩,.string ⟨#[]⟩] 71)) N 71 #[.int .i64 0,.int .i64 0,.int .i64 0,.int .i64 0,.int .i64 0,.int .i64 0,.int .i64 0,.string ⟨#[]⟩,.string ⟨#[]⟩]):=⟨Blk.new_at w _ _ N hN.symm⟩
 have KC:=dnum_any _ d G 1 st (h.below b0) hd
 have DN:Kept (d < N∧∀ g∈G,g < N):=⟨by rw[← hN];exact h.lt,fun g hg=>by rw[← hN];exact h.1 g hg⟩
 have B:Kept (Bar [d] w (w.alloc (.cells #[.int .i64 0,.int .i64 0,.int .i64 0,.int .i64 0,.int .i64 0,.int .i64 0,.int .i64 0,.string ⟨#[]⟩,.string ⟨#[]⟩] 71))):=⟨barOf b0 _⟩
 obtain⟨sd,hsd⟩:∃ sd,decNum st 1=sd:=⟨_,rfl⟩
 rw[hsd] at KC hz hb1 RB ⊢
 obtain⟨z,st1⟩:=sd
 dsimp only at KC hz hb1 RB ⊢
 have HBY:Kept (∀ k,Bytes (iter (fun s=>decNum s 1) k st1).1∧Bytes (iter (fun s=>decNum s 1) k st1).2.2):=⟨fun k=>⟨iter_bytes1 k st1 hb1,(byte_way.iter k st1 hb1).1⟩⟩
 have HLE:Kept (∀ k,(iter (fun s=>decNum s 1) k st1).1.length=k):=⟨fun k=>iter_len _ k st1⟩
 have KB:=Kept.mk (behind_any z)
 have hK53:=bhL_le z
 obtain⟨K,hK⟩:∃ K,bhL z=K:=⟨_,rfl⟩
 rw[hK] at KB hK53 RB ⊢
 have HRB:=Kept.mk RB
 have KK:=Kept.mk KC
 have HD0:=Kept.mk hd
 obtain⟨hz0,hz1⟩:=hz
 have HZB:Kept (Bytes [z]):=⟨fun u hu=>by rw[List.mem_singleton] at hu;subst hu;exact⟨hz0,by omega⟩⟩
 clear h hby hb1 RB RR b0 hsd hK KC hd
 go_enter Tryz.func51,Tryz.ntmps51
 go_upto_region 1 with(fail)
 generalize (w.alloc (.cells #[.int .i64 0,.int .i64 0,.int .i64 0,.int .i64 0,.int .i64 0,.int .i64 0,.int .i64 0,.string ⟨#[]⟩,.string ⟨#[]⟩] 71))=w0 at *
 go_wp2_with fail
 refine KK.out.mono ?_
 rintro x w1 ⟨rfl,he,b⟩
 replace Y:=Kept.mk (Y.out.bar b (by have:=DN.out.1;simp;omega))
 replace B:=Kept.mk (B.out.trans b (fun x hx=>.inl hx))
 obtain⟨w2,hmk,k2,b2⟩:=make_blk w1 13 (by omega)
 rw[show ((13:Nat):Int)=13 from rfl] at hmk
 obtain⟨M,hM⟩:∃ M,w1.heap.size=M:=⟨_,rfl⟩
 have hNM:N < M:=by rw[← hM];exact Y.out.lt
 have D2:=Kept.mk (he.below b2)
 replace Y:=Kept.mk (Y.out.below b2 Y.out.lt)
 replace B:=Kept.mk (B.out.trans (barOf b2 [d]) (fun x hx=>.inl hx))
 rw[hM] at hmk k2
 have y12:w2.cell? ⟨M,12,none⟩=some (.int .u8 0):=k2.at_ 12 (by simp)
 have z12:=k2.frozen 12
 have K2:=Kept.mk k2
 clear KK he b b2 k2
 go_upto_region 4 with(fail)
 have K3:Blk (w2.setCell ⟨M,12,none⟩ (.int .u8 1)) M 5 (arr .u8 hdr):=by
  have:=K2.out.set_ 12 (.int .u8 1)
  rwa [arr_set] at this
 have BM:Bar [M] w2 (w2.setCell ⟨M,12,none⟩ (.int .u8 1)):=(Bar.refl [M] w2).setCell (p:=⟨M,12,none⟩) (.inl (by simp)) _
 have MW:Kept (w.heap.size≤M∧d≠M∧∀ g∈G,g≠M):=⟨by omega,by have:=DN.out.1;omega,fun g hg=>by have:=DN.out.2 g hg;omega⟩
 replace D2:=Kept.mk (D2.out.keep BM (by simpa using MW.out.2.1) (fun g hg=>by simpa using MW.out.2.2 g hg))
 replace Y:=Kept.mk (Y.out.bar BM (by simp;omega))
 replace B:=Kept.mk (B.out.trans BM (fun k hk=>.inr (by rw[List.mem_singleton] at hk;rw[hk];exact MW.out.1)))
 have O:=Kept.mk (own_of_blk (n:=13) (base:=w.heap.size) K3 rfl MW.out.1 (by omega))
 clear hmk y12 z12 K2 K3 BM
 generalize w2.setCell ⟨M,12,none⟩ (.int .u8 1)=w3 at *
 have b4:Below w3.heap.size w3 (w3.alloc (.cells #[.int .u8 z] 5)):=(Below.refl _ _).alloc (Nat.le_refl _) _
 have RZ:Rd (w3.alloc (.cells #[.int .u8 z] 5)) (some ⟨w3.heap.size,0,none⟩) 1 [z]:=Rd.blk (T:=5) (Blk.new w3 5 (arr .u8 [z])) HZB.out rfl
 replace O:=Kept.mk (own_keep O.out (barOf b4 []) (fun _ _=>by simp))
 replace D2:=Kept.mk (D2.out.below b4);replace Y:=Kept.mk (Y.out.below b4 Y.out.lt)
 replace B:=Kept.mk (B.out.trans (barOf b4 [d]) (fun x hx=>.inl hx))
 have BS:Kept (w.heap.size≤(w3.alloc (.cells #[.int .u8 z] 5)).heap.size):=⟨B.out.size⟩
 go_upto_region 5 with((with_reducible refine sel 17 ?_);refine wpList_append_rda rfl (.tmp 13) (.tmp 16) 26 rfl w.heap.size 5 Tryz.underlying26 info_u8 (.slice (some ⟨M,0,none⟩) 13 13) 13 (ints .u8 hdr) rfl O.out (some ⟨w3.heap.size,0,none⟩) 1 1 [z] rfl RZ (by omega) BS.out ?_;intro v' w' ho hg hat)
 have OW:Kept (w'.ownsRow w.heap.size 5 1 v' (14+0) (ints .u8 (hdr++(z :: (iter (fun s=>decNum s 1) 0 st1).1)))):=⟨by
  have:=ho.out
  rw[← ints_append] at this
  exact this⟩
 have bg:=Bar.grownRow hg
 replace D2:Kept (De 157 w' d G (iter (fun s=>decNum s 1) 0 st1).2):=⟨D2.out.keep bg (by simp[Value.ownBlock];exact MW.out.2.1) (fun g hg2=>by simp[Value.ownBlock];exact MW.out.2.2 g hg2)⟩
 replace Y:=Kept.mk (Y.out.bar bg (by simp[Value.ownBlock];omega))
 replace B:=Kept.mk (B.out.trans bg (fun k hk=>.inr (by simp[Value.ownBlock] at hk;rw[hk];exact MW.out.1)))
 clear ho hg hat bg b4 RZ O BS
 go_wp2_with fail
 refine(KB.out _).mono ?_
 rintro x w5 ⟨rfl,rfl⟩
 clear KB
 go_wp2
 go_loopw [5,20] (fun bv i wr=>∃ (k:Nat) (oz:Value),k≤K∧i=.int .i64 k∧oz=bv∧Kept (De 157 wr d G (iter (fun s=>decNum s 1) k st1).2)∧Kept (wr.ownsRow w.heap.size 5 1 oz (14+k) (ints .u8 (hdr++(z :: (iter (fun s=>decNum s 1) k st1).1))))∧Kept (Blk wr N 71 #[.int .i64 0,.int .i64 0,.int .i64 0,.int .i64 0,.int .i64 0,.int .i64 0,.int .i64 0,.string ⟨#[]⟩,.string ⟨#[]⟩])∧Kept (Bar [d] w wr)) (fun _ i _=>K - (Go.RowKit.intOf i).toNat)
 case atStart=>exact⟨0,_,by omega,rfl,rfl,D2,OW,Y,B⟩
 case round =>
  clear D2 OW Y B
  obtain⟨k,oz,hk,rfl,rfl,D2,OW,Y,B⟩:=hrel
  by_cases hkK:k < K
  ·have hkK':(k:Int) < K:=by omega
   have hy:=decNum_size0 _ (HBY.out k).2
   have KC:=dnum_any wr d G 1 _ D2.out HD0.out
   have HIT:Kept (iter (fun s=>decNum s 1) (k+1) st1=((iter (fun s=>decNum s 1) k st1).1++[(decNum (iter (fun s=>decNum s 1) k st1).2 1).1],(decNum (iter (fun s=>decNum s 1) k st1).2 1).2)):=⟨rfl⟩
   obtain⟨s2,hs2⟩:∃ s2,decNum (iter (fun s=>decNum s 1) k st1).2 1=s2:=⟨_,rfl⟩
   rw[hs2] at KC hy HIT
   obtain⟨y,s3⟩:=s2
   dsimp only at KC hy HIT
   have KK:=Kept.mk KC
   obtain⟨hy0,hy1⟩:=hy
   have HYB:Kept (Bytes [y]):=⟨fun u hu=>by rw[List.mem_singleton] at hu;subst hu;exact⟨hy0,by omega⟩⟩
   clear hs2 KC
   obtain⟨va,hov⟩:=own_shape OW.out
   obtain⟨vc,rfl⟩:=hov
   have OD:Kept (d∉(Value.slice va (14+k) vc).ownBlock.toList∧(∀ g∈G,g∉(Value.slice va (14+k) vc).ownBlock.toList)∧N∉(Value.slice va (14+k) vc).ownBlock.toList):=⟨fun hm=>by have:=(OW.out.lt d (by simpa using hm)).1;have:=DN.out.1;omega,fun g hg hm=>by have:=(OW.out.lt g (by simpa using hm)).1;have:=DN.out.2 g hg;omega,fun hm=>own_far OW.out Y.out (by decide) (by simpa using hm)⟩
   go_wp2_with fail
   refine KK.out.mono ?_
   rintro x w2 ⟨rfl,he,b⟩
   replace D2:=Kept.mk he
   replace OW:=Kept.mk (own_keep OW.out b (fun g hg hm=>by rw[List.mem_singleton] at hm;subst hm;exact OD.out.1 hg))
   replace Y:=Kept.mk (Y.out.bar b (by have:=DN.out.1;simp;omega))
   replace B:=Kept.mk (B.out.trans b (fun x hx=>.inl hx))
   clear he b KK
   have b4:Below w2.heap.size w2 (w2.alloc (.cells #[.int .u8 y] 5)):=(Below.refl _ _).alloc (Nat.le_refl _) _
   have RZ:Rd (w2.alloc (.cells #[.int .u8 y] 5)) (some ⟨w2.heap.size,0,none⟩) 1 [y]:=Rd.blk (T:=5) (Blk.new w2 5 (arr .u8 [y])) HYB.out rfl
   replace OW:=Kept.mk (own_keep OW.out (barOf b4 []) (fun _ _=>by simp))
   replace D2:=Kept.mk (D2.out.below b4);replace Y:=Kept.mk (Y.out.below b4 Y.out.lt)
   replace B:=Kept.mk (B.out.trans (barOf b4 [d]) (fun x hx=>.inl hx))
   have BS:Kept (w.heap.size≤(w2.alloc (.cells #[.int .u8 y] 5)).heap.size):=⟨B.out.size⟩
   go_wp2_with ((with_reducible refine sel 27 ?_);refine wpList_append_rda rfl (.tmp 22) (.tmp 26) 26 rfl w.heap.size 5 Tryz.underlying26 info_u8 (.slice va (14+k) vc) (14+k) _ rfl OW.out (some ⟨w2.heap.size,0,none⟩) 1 1 [y] rfl RZ (by omega) BS.out ?_;intro v' w' ho hg hat)
   have OW3:Kept (w'.ownsRow w.heap.size 5 1 v' (14+(k+1)) (ints .u8 (hdr++(z :: (iter (fun s=>decNum s 1) (k+1) st1).1)))):=⟨by
    have:=ho.out
    rw[← ints_append,List.append_assoc,List.cons_append] at this
    rw[HIT.out]
    exact this⟩
   have bg:=Bar.grownRow hg
   have D3:Kept (De 157 w' d G (iter (fun s=>decNum s 1) (k+1) st1).2):=⟨by rw[HIT.out];exact D2.out.keep bg OD.out.1 OD.out.2.1⟩
   replace Y:=Kept.mk (Y.out.bar bg OD.out.2.2)
   replace B:=Kept.mk (B.out.trans bg (fun k hk=>.inr ((OW.out.lt k (by simpa using hk)).1)))
   clear ho hg hat bg b4 RZ BS
   go_roundw
   case rel=>exact⟨k+1,v',by omega,by go_num,rfl,D3,OW3,Y,B⟩
   case measure=>simp[Go.RowKit.intOf];omega
  ·have hkK':¬ (k:Int) < K:=by omega
   obtain rfl:k=K:=by omega
   have HBB:Bytes (hdr++(z :: (iter (fun s=>decNum s 1) k st1).1)):=hdr_bytes.append HRB.out
   obtain⟨A,c,rfl,hc,hcm,RD⟩:=own_rd OW.out HBB
   have KD:=Kept.mk (cdeca_any (c:=c) RD (by omega))
   unfold DecAPost at KD
   clear RD HBB
   go_wp2_with fail
   refine KD.out.mono ?_
   rintro x w6 ⟨e,clock,seen,A1,n1,c1,l1,D1,m1,d1,v1,rfl,h1,h2,h3,h4,hp,hv,hok,hdec,bb⟩
   replace D2:=Kept.mk (D2.out.below bb);replace Y:=Kept.mk (Y.out.below bb Y.out.lt)
   replace B:=Kept.mk (B.out.trans (barOf bb [d]) (fun x hx=>.inl hx))
   have HDEC:=Kept.mk hdec;have HV:=Kept.mk hv;have HOK:=Kept.mk hok
   have NDW:Kept (w.heap.size≤N∧d≠N∧∀ g∈G,g≠N):=⟨by omega,by have:=DN.out.1;omega,fun g hg=>by have:=DN.out.2 g hg;omega⟩
   clear KD hp hv hok hdec bb OW
   have b7:Below w6.heap.size w6 (w6.alloc (.cells #[.int .i64 clock,.int .i64 seen,.slice A1 n1 c1,.slice D1 m1 d1] 59)):=(Below.refl _ _).alloc (Nat.le_refl _) _
   obtain⟨M7,hM7⟩:∃ M7,w6.heap.size=M7:=⟨_,rfl⟩
   have X7:Kept (Blk (w6.alloc (.cells #[.int .i64 clock,.int .i64 seen,.slice A1 n1 c1,.slice D1 m1 d1] 59)) M7 59 #[.int .i64 clock,.int .i64 seen,.slice A1 n1 c1,.slice D1 m1 d1]):=⟨Blk.new_at _ _ _ M7 hM7.symm⟩
   go_upto_region 10 with(fail)
   replace D2:=Kept.mk (D2.out.below b7);replace Y:=Kept.mk (Y.out.below b7 Y.out.lt)
   replace B:=Kept.mk (B.out.trans (barOf b7 [d]) (fun x hx=>.inl hx))
   replace HV:=Kept.mk (HV.out.below b7)
   clear b7
   generalize w6.alloc (.cells #[.int .i64 clock,.int .i64 seen,.slice A1 n1 c1,.slice D1 m1 d1] 59)=w7 at *
   by_cases he0:e=0
   ·subst he0
    obtain⟨V,hv1,hmay⟩:=dec_one HDEC.out
    dsimp only at hv1
    subst hv1
    have HMAY:=Kept.mk hmay
    have hm1:1=m1:=HV.out.1
    obtain⟨g,go,V2,hA,hV2,hyc⟩:=HV.out.at_ (k:=0) (by omega)
    simp at hV2
    subst hV2 hA
    have HVO:Kept V.ok:=⟨HOK.out V (by simp)⟩
    have HDC:=Kept.mk HDEC.out
    obtain⟨ek,es,ed,ea,en,ei,eu,eh,ec⟩:=V
    have hm1':(0:Int) < m1:=by omega
    have y0:w7.cell? ⟨g,go,none⟩=some (.int .i64 ek):=(by simpa using hyc 0 _ rfl);have y1:w7.cell? ⟨g,go+1,none⟩=some (.int .i64 es):=(by simpa using hyc 1 _ rfl);have y2:w7.cell? ⟨g,go+2,none⟩=some (.int .i64 ed):=(by simpa using hyc 2 _ rfl);have y3:w7.cell? ⟨g,go+3,none⟩=some (.int .i64 ea):=(by simpa using hyc 3 _ rfl);have y4:w7.cell? ⟨g,go+4,none⟩=some (.int .i64 en):=(by simpa using hyc 4 _ rfl);have y5:w7.cell? ⟨g,go+5,none⟩=some (.int .i64 ei):=(by simpa using hyc 5 _ rfl);have y6:w7.cell? ⟨g,go+6,none⟩=some (.int .i64 eu):=(by simpa using hyc 6 _ rfl);have y7:w7.cell? ⟨g,go+7,none⟩=some (.string (strOfNums eh)):=(by simpa using hyc 7 _ rfl);have y8:w7.cell? ⟨g,go+8,none⟩=some (.string (strOfNums ec)):=(by simpa using hyc 8 _ rfl)
    have x3:=X7.out.cell 3
    have r0:w7.cell? ⟨N,0,none⟩=some (.int .i64 0):=Y.out.cell 0;have q0:=Y.out.frozen 0;have r1:w7.cell? ⟨N,1,none⟩=some (.int .i64 0):=Y.out.cell 1;have q1:=Y.out.frozen 1;have r2:w7.cell? ⟨N,2,none⟩=some (.int .i64 0):=Y.out.cell 2;have q2:=Y.out.frozen 2;have r3:w7.cell? ⟨N,3,none⟩=some (.int .i64 0):=Y.out.cell 3;have q3:=Y.out.frozen 3;have r4:w7.cell? ⟨N,4,none⟩=some (.int .i64 0):=Y.out.cell 4;have q4:=Y.out.frozen 4;have r5:w7.cell? ⟨N,5,none⟩=some (.int .i64 0):=Y.out.cell 5;have q5:=Y.out.frozen 5;have r6:w7.cell? ⟨N,6,none⟩=some (.int .i64 0):=Y.out.cell 6;have q6:=Y.out.frozen 6;have r7:w7.cell? ⟨N,7,none⟩=some (.string ⟨#[]⟩):=Y.out.cell 7;have q7:=Y.out.frozen 7;have r8:w7.cell? ⟨N,8,none⟩=some (.string ⟨#[]⟩):=Y.out.cell 8;have q8:=Y.out.frozen 8
    have PP:=Kept.mk (put9 Y.out (.int .i64 ek) (.int .i64 es) (.int .i64 ed) (.int .i64 ea) (.int .i64 en) (.int .i64 ei) (.int .i64 eu) (.string (strOfNums eh)) (.string (strOfNums ec)))
    clear hyc Y hm1 HDEC HV HOK hmay X7
    go_wp2
    (try simp only[Exit.inBlock,Exit.then])
    refine bodyPost_ret (results_row_tmp rfl _ _ N 71 #[.int .i64 ek,.int .i64 es,.int .i64 ed,.int .i64 ea,.int .i64 en,.int .i64 ei,.int .i64 eu,.string (strOfNums eh),.string (strOfNums ec)] (0,0) _ rfl PP.out.1 Tryz.underlying71 rfl event_size) rfl ?_
    exact⟨⟨ek,es,ed,ea,en,ei,eu,eh,ec⟩,true,rfl,.inl ⟨rfl,HMAY.out,HVO.out,_,HDC.out,rfl⟩,D2.out.keep PP.out.2 (by simpa using NDW.out.2.1) (fun g hg=>by simpa using NDW.out.2.2 g hg),B.out.trans PP.out.2 (fun k hk=>.inr (by rw[List.mem_singleton] at hk;rw[hk];exact NDW.out.1))⟩
   ·have he1:(e != 0)=true:=by simpa using he0
    have HNO:Kept (∀ x,¬ DecA (hdr++(z :: (iter (fun s=>decNum s 1) k st1).1)) 0 x):=⟨fun x hx=>by
     have:=HDEC.out.one hx
     exact he0 this.1⟩
    have r0:w7.cell? ⟨N,0,none⟩=some (.int .i64 0):=Y.out.cell 0;have q0:=Y.out.frozen 0;have r1:w7.cell? ⟨N,1,none⟩=some (.int .i64 0):=Y.out.cell 1;have q1:=Y.out.frozen 1;have r2:w7.cell? ⟨N,2,none⟩=some (.int .i64 0):=Y.out.cell 2;have q2:=Y.out.frozen 2;have r3:w7.cell? ⟨N,3,none⟩=some (.int .i64 0):=Y.out.cell 3;have q3:=Y.out.frozen 3;have r4:w7.cell? ⟨N,4,none⟩=some (.int .i64 0):=Y.out.cell 4;have q4:=Y.out.frozen 4;have r5:w7.cell? ⟨N,5,none⟩=some (.int .i64 0):=Y.out.cell 5;have q5:=Y.out.frozen 5;have r6:w7.cell? ⟨N,6,none⟩=some (.int .i64 0):=Y.out.cell 6;have q6:=Y.out.frozen 6;have r7:w7.cell? ⟨N,7,none⟩=some (.string ⟨#[]⟩):=Y.out.cell 7;have q7:=Y.out.frozen 7;have r8:w7.cell? ⟨N,8,none⟩=some (.string ⟨#[]⟩):=Y.out.cell 8;have q8:=Y.out.frozen 8
    have PP:=Kept.mk (put9 Y.out (.int .i64 0) (.int .i64 0) (.int .i64 0) (.int .i64 0) (.int .i64 0) (.int .i64 0) (.int .i64 0) (.string ⟨#[]⟩) (.string ⟨#[]⟩))
    clear Y HDEC HV HOK X7
    go_wp2
    (try simp only[Exit.inBlock,Exit.then])
    refine bodyPost_ret (results_row_tmp rfl _ _ N 71 #[.int .i64 0,.int .i64 0,.int .i64 0,.int .i64 0,.int .i64 0,.int .i64 0,.int .i64 0,.string ⟨#[]⟩,.string ⟨#[]⟩] (0,0) _ rfl PP.out.1 Tryz.underlying71 rfl event_size) rfl ?_
    exact⟨V0,false,rfl,.inr ⟨rfl,rfl,HNO.out⟩,D2.out.keep PP.out.2 (by simpa using NDW.out.2.1) (fun g hg=>by simpa using NDW.out.2.2 g hg),B.out.trans PP.out.2 (fun k hk=>.inr (by rw[List.mem_singleton] at hk;rw[hk];exact NDW.out.1))⟩
theorem decNum_small (st:St) (s:Int):0≤(decNum st s).1∧(decNum st s).1≤4611686018427387904:=by
 unfold decNum
 split
 ·split
  ·split
   ·rename_i h
    refine⟨Int.natCast_nonneg _,?_⟩
    have:=h.2
    omega
   ·exact⟨by simp,by simp⟩
  ·exact⟨by simp,by simp⟩
 ·exact⟨by simp,by simp⟩
theorem reply_field (pc pi:Int) (w':World):(Instr.field 63 (.agg #[.int .i64 pc,.int .i64 pi]) 0).run Tryz.prog w'=.ok (.int .i64 pc) w':=by
 unfold Instr.field
 go_simp
 simp[asAgg,Result.andThen]
section
variable {w : World} {t x : Nat} {F : List Nat} {s : LS}
def AgainPost (t:Nat) (F:List Nat) (x:Nat) (s:LS) (b:List Int) (w:World) (e:Ending) (w':World):Prop :=
 e=.returned (.tuple #[])∧∃ F' s1,Lk w' t F' x s1∧Fp (t :: F) (t :: F') w w'∧Reach s s1∧∀ s',Reach s s'→saveL s'=b→s1=s'
structure Ag (w wr:World) (t x d:Nat) (G F0 F:List Nat) (s0 s:LS) (st:St):Prop where
 lk:Lk wr t F x s
 fp:Fp (t :: F0) (t :: F) w wr
 de:De 157 wr d G st
 rc:Reach s0 s
 df:d∉t :: F
 gf:∀ g∈G,g∉t :: F
variable {wr wr' : World} {d : Nat} {G F0 F' : List Nat} {s0 s' : LS} {st st' : St}
theorem Ag.below (h:Ag w wr t x d G F0 F s0 s st) (b:Below wr.heap.size wr wr'):Ag w wr' t x d G F0 F s0 s st :=
 ⟨h.lk.below b,h.fp.trans ⟨barOf b _,fun _ hk=>.inl hk⟩,h.de.below b,h.rc,h.df,h.gf⟩
theorem Ag.read (h:Ag w wr t x d G F0 F s0 s st) (hw:w.heap.size≤d) (he:De 157 wr' d G st') (b:Bar [d] wr wr'):Ag w wr' t x d G F0 F s0 s st' :=
 ⟨h.lk.put b h.df,fp_put h.fp b hw,he,h.rc,h.df,h.gf⟩
theorem Ag.step (h:Ag w wr t x d G F0 F s0 s st) (k:Lk wr' t F' x s') (fp:Fp (t :: F) (t :: F') wr wr') (r:Reach s0 s'):Ag w wr' t x d G F0 F' s0 s' st :=
 ⟨k,h.fp.trans fp,h.de.keep fp.1 h.df (fun g hg=>h.gf g hg),r,off_step h.df h.de.lt fp,fun g hg=>off_step (h.gf g hg) (h.de.1 g hg) fp⟩
set_option maxRecDepth 100000 in
set_option maxHeartbeats 3000000 in
theorem again_any {A:Option Addr}{n c:Nat}{b:List Int}(h:Lk w t F x s) (W:WL s) (WI_:WI s) (h0:s.e=[]) (hr:Rd w A n b) (hn:n≤100000) :
  Calls Tryz.prog 25 #[.pointer (some ⟨x,0,none⟩),.slice A n c] w (AgainPost t F x s b w):=by
 have KN:=Kept.mk (newdec_any A n c b w hr (by omega))
 have HL:=Kept.mk h
 have HW:=Kept.mk W;have HWI:=Kept.mk WI_;have H0:=Kept.mk h0
 have GS:=Kept.mk (gone_start W WI_ b)
 have hnb:=decNum_small (cl0 b).2 2
 have C0:Kept (decNum (0,b) 8=cl0 b):=⟨rfl⟩
 have N0:Kept (decNum (cl0 b).2 2=n0 b):=⟨rfl⟩
 rw[N0.out] at hnb
 clear h W WI_ h0 hr
 go_enter Tryz.func25,Tryz.ntmps25
 go_wp2_with fail
 refine KN.out.mono ?_
 rintro y w1 ⟨d,G,rfl,he,hd,hG,hdG,bb⟩
 have DW:Kept (w.heap.size≤d∧d∉G):=⟨hd,hdG⟩
 have Q:Kept (Ag w w1 t x d G F F s s (0,b)):=⟨HL.out.below bb,⟨barOf bb _,fun _ hk=>.inl hk⟩,he,Reach.start,fun hm=>by
  have l:=HL.out.lts
  rcases List.mem_cons.1 hm with e|hm
  ·have:=ctab_lt l.2.2;omega
  ·have:=l.1 d hm;omega,fun g hg hm=>by
  have l:=HL.out.lts
  have:=(hG g hg).1
  rcases List.mem_cons.1 hm with e|hm
  ·have:=ctab_lt l.2.2;omega
  ·have:=l.1 g hm;omega⟩
 have KC:=dnum_any w1 d G 8 (0,b) he DW.out.2
 rw[C0.out] at KC
 have KC2:=Kept.mk KC
 clear KN HL he hd hG hdG bb KC
 go_wp2_with fail
 refine KC2.out.mono ?_
 rintro y w2 ⟨rfl,he,bb⟩
 replace Q:=Kept.mk (Q.out.read DW.out.1 he bb)
 have KC:=dnum_any w2 d G 2 (cl0 b).2 he DW.out.2
 rw[N0.out] at KC
 have KC3:=Kept.mk KC
 clear KC2 he bb KC
 go_wp2_with fail
 refine KC3.out.mono ?_
 rintro y w3 ⟨rfl,he,bb⟩
 replace Q:=Kept.mk (Q.out.read DW.out.1 he bb)
 clear KC3 he bb
 obtain⟨cz,hcz⟩:∃ cz,(cl0 b).1=cz:=⟨_,rfl⟩
 obtain⟨nn,hnn⟩:∃ nn,(n0 b).1=nn:=⟨_,rfl⟩
 have HCZ:=Kept.mk hcz;have HNN:=Kept.mk hnn
 rw[hnn] at hnb
 obtain⟨m,rfl⟩:∃ m:Nat,nn=m:=⟨nn.toNat,by omega⟩
 have hmb:m≤4611686018427387904:=by omega
 clear hnb
 rw[hcz,hnn]
 clear hcz hnn
 go_wp2
 go_loopw [18] (fun i wr=>∃ (k:Nat) (F2:List Nat) (s2:LS) (st:St),k≤m∧i=.int .i64 k∧Kept (Ag w wr t x d G F F2 s s2 st)∧Kept (Gone s b k s2 st)) (fun i _=>m - (Go.RowKit.intOf i).toNat)
 case atStart=>exact⟨0,F,s,_,by omega,rfl,Q,GS⟩
 case round =>
  clear Q GS
  obtain⟨k,F2,s2,st,hk,rfl,Q,GS⟩:=hrel
  by_cases hkm:k < m
  ·have hkm':(k:Int) < m:=by omega
   have KC:=Kept.mk (dnum_any wr d G 1 st Q.out.de DW.out.2)
   go_wp2_with fail
   refine KC.out.mono ?_
   rintro y w4 ⟨rfl,he,bb⟩
   replace Q:=Kept.mk (Q.out.read DW.out.1 he bb)
   have KC2:=Kept.mk (dnum_any w4 d G 8 _ he DW.out.2)
   clear KC he bb
   go_wp2_with fail
   refine KC2.out.mono ?_
   rintro y w5 ⟨rfl,he,bb⟩
   replace Q:=Kept.mk (Q.out.read DW.out.1 he bb)
   have KG:=Kept.mk (getev_any he DW.out.2)
   unfold GetEvPost at KG
   clear KC2 he bb
   go_wp2_with fail
   refine KG.out.mono ?_
   rintro y w6 ⟨V,ok,rfl,hev,he,bb⟩
   replace Q:=Kept.mk (Q.out.read DW.out.1 he bb)
   obtain⟨gs1,gs2⟩:=gone_step HW.out HWI.out H0.out GS.out hev
   have GS1:=Kept.mk gs1;have GS2:=Kept.mk (gs2 m HNN.out.symm hkm)
   have HEV:=Kept.mk hev
   have HLK:Kept (∀ s',Reach s s'→saveL s'=b→k < s'.e.length):=⟨fun s' hr hs=>by
    have:=(save_head (hr.keeps HW.out HWI.out).wl).2
    rw[hs] at this
    have h2:=HNN.out
    rw[this] at h2
    dsimp only at h2
    omega⟩
   obtain⟨ek,es,ed,ea,en,ei,eu,eh,ec⟩:=V
   obtain⟨pz,hpz⟩:∃ pz,(decNum st 1).1=pz:=⟨_,rfl⟩
   obtain⟨az,haz⟩:∃ az,(decNum (decNum st 1).2 8).1=az:=⟨_,rfl⟩
   rw[hpz,haz] at GS1 GS2
   rw[hpz,haz]
   unfold vqv
   dsimp only
   clear KG gs1 gs2 hev he bb hpz haz GS
   have b7:Below w6.heap.size w6 (w6.alloc (.cells #[.int .i64 ek,.int .i64 es,.int .i64 ed,.int .i64 ea,.int .i64 en,.int .i64 ei,.int .i64 eu,.string (strOfNums eh),.string (strOfNums ec)] 71)):=(Below.refl _ _).alloc (Nat.le_refl _) _
   obtain⟨M,hM⟩:∃ M,w6.heap.size=M:=⟨_,rfl⟩
   have X:Kept (Blk (w6.alloc (.cells #[.int .i64 ek,.int .i64 es,.int .i64 ed,.int .i64 ea,.int .i64 en,.int .i64 ei,.int .i64 eu,.string (strOfNums eh),.string (strOfNums ec)] 71)) M 71 #[.int .i64 ek,.int .i64 es,.int .i64 ed,.int .i64 ea,.int .i64 en,.int .i64 ei,.int .i64 eu,.string (strOfNums eh),.string (strOfNums ec)]):=⟨Blk.new_at _ _ _ M hM.symm⟩
   have MF:Kept (M∉t :: F2):=⟨fun hm=>by
    have l:=Q.out.lk.lts
    rcases List.mem_cons.1 hm with e|hm
    ·have:=ctab_lt l.2.2;omega
    ·have:=l.1 M hm;omega⟩
   go_upto_region 6 with(fail)
   replace Q:=Kept.mk (Q.out.below b7)
   clear b7
   generalize (w6.alloc (.cells #[.int .i64 ek,.int .i64 es,.int .i64 ed,.int .i64 ea,.int .i64 en,.int .i64 ei,.int .i64 eu,.string (strOfNums eh),.string (strOfNums ec)] 71))=w7 at *
   cases ok with
   | false =>
    go_wp2
    refine bodyPost_ret (results_none rfl _ _ _) rfl ?_
    exact⟨rfl,F2,_,Q.out.lk,Q.out.fp,Q.out.rc,fun s' hr hs=>by
     have:=(GS1.out s' hr hs (HLK.out s' hr hs)).1
     cases this⟩
   | true =>
    have HVO:Kept (VV.ok ⟨ek,es,ed,ea,en,ei,eu,eh,ec⟩):=⟨by
     rcases HEV.out with⟨-,-,h,-⟩|⟨h,-⟩
     ·exact h
     ·cases h⟩
    have KA:=Kept.mk (advance_any az Q.out.lk)
    unfold StepPost at KA
    go_wp2_with fail
    refine KA.out.mono ?_
    rintro y w8 ⟨rfl,F3,hk3,fp⟩
    replace X:=Kept.mk (X.out.bar fp.1 MF.out)
    replace Q:=Kept.mk (Q.out.step hk3 fp (Q.out.rc.tick az))
    obtain⟨s3,hs3⟩:∃ s3,clockL s2 az=s3:=⟨_,rfl⟩
    rw[hs3] at Q GS1 GS2
    have KR:=request_any (w:=w8) ⟨ek,es,ed,ea,en,ei,eu,eh,ec⟩
    have hok:(reqOf ⟨ek,es,ed,ea,en,ei,eu,eh,ec⟩).ok:=reqOf_ok HVO.out
    obtain⟨RQ,hRQ⟩:∃ RQ,reqOf ⟨ek,es,ed,ea,en,ei,eu,eh,ec⟩=RQ:=⟨_,rfl⟩
    rw[hRQ] at KR GS1 GS2 hok
    have HOK:=Kept.mk hok
    have KQ:Kept (∀ w',Below w8.heap.size w8 w'→Calls Tryz.prog 45 #[.pointer (some ⟨x,0,none⟩),.int .i64 pz,rqv RQ] w' (StepPost w' t F3 x (pqv (oneL s3 pz RQ).1) (oneL s3 pz RQ).2)):=⟨fun w' bb=>by
     obtain⟨b2,q2,G2,v2,d2,hL,hF⟩:=Q.out.lk.below bb
     rw[hF]
     exact ask_any pz RQ (Q.out.rc.keeps HW.out HWI.out).wl HOK.out hL⟩
    have HO1:=Kept.mk (Q.out.rc.one pz RQ HOK.out)
    obtain⟨⟨⟨pc,pi⟩,s4⟩,hO⟩:∃ O,oneL s3 pz RQ=O:=⟨_,rfl⟩
    rw[hO] at KQ HO1 GS1 GS2
    obtain⟨qk,qd,qa,qn,qi,qu,qh,qs⟩:=RQ
    unfold TellB vqv rqv at KR
    unfold StepPost rqv pqv at KQ
    dsimp only at KR KQ HO1 GS1 GS2
    have KR2:=Kept.mk KR
    clear KA hk3 fp hs3 KR hok hRQ hO
    have y0:w8.cell? ⟨M,0,none⟩=some (.int .i64 ek):=X.out.cell 0;have y1:w8.cell? ⟨M,1,none⟩=some (.int .i64 es):=X.out.cell 1;have y2:w8.cell? ⟨M,2,none⟩=some (.int .i64 ed):=X.out.cell 2;have y3:w8.cell? ⟨M,3,none⟩=some (.int .i64 ea):=X.out.cell 3;have y4:w8.cell? ⟨M,4,none⟩=some (.int .i64 en):=X.out.cell 4;have y5:w8.cell? ⟨M,5,none⟩=some (.int .i64 ei):=X.out.cell 5;have y6:w8.cell? ⟨M,6,none⟩=some (.int .i64 eu):=X.out.cell 6;have y7:w8.cell? ⟨M,7,none⟩=some (.string (strOfNums eh)):=X.out.cell 7;have y8:w8.cell? ⟨M,8,none⟩=some (.string (strOfNums ec)):=X.out.cell 8
    go_wp2_with fail
    refine KR2.out.mono ?_
    rintro y w9 ⟨rfl,bb⟩
    have KQ2:=Kept.mk (KQ.out w9 bb)
    replace Q:=Kept.mk (Q.out.below bb)
    clear KR2 KQ bb X y0 y1 y2 y3 y4 y5 y6 y7 y8
    have hfd:=reply_field pc pi
    go_wp2_with fail
    refine KQ2.out.mono ?_
    rintro y w10 ⟨rfl,F4,hk4,fp⟩
    replace Q:=Kept.mk (Q.out.step hk4 fp HO1.out)
    clear KQ2 hk4 fp
    by_cases hpc:pc=0
    ·subst hpc
     go_wp2
     go_roundw
     case rel=>exact⟨k+1,F4,s4,_,by omega,by go_num,Q,GS2⟩
     case measure=>simp[Go.RowKit.intOf];omega
    ·have hpc':(pc != 0)=true:=by simpa using hpc
     go_wp2
     refine bodyPost_ret (results_none rfl _ _ _) rfl ?_
     exact⟨rfl,F4,_,Q.out.lk,Q.out.fp,Q.out.rc,fun s' hr hs=>absurd (GS1.out s' hr hs (HLK.out s' hr hs)).2 hpc⟩
  ·have hkm':¬ (k:Int) < m:=by omega
   obtain rfl:k=m:=by omega
   have KA:=Kept.mk (advance_any cz Q.out.lk)
   unfold StepPost at KA
   go_wp2_with fail
   refine KA.out.mono ?_
   rintro y w4 ⟨rfl,F3,hk,fp⟩
   have GE:=Kept.mk (gone_end HW.out HWI.out H0.out GS.out (by rw[HNN.out];exact Int.le_refl _))
   rw[HCZ.out] at GE
   replace Q:=Kept.mk (Q.out.step hk fp (Q.out.rc.tick cz))
   clear KA hk fp
   go_wp2
   refine bodyPost_ret (results_none rfl _ _ _) rfl ?_
   exact⟨rfl,F3,_,Q.out.lk,Q.out.fp,Q.out.rc,GE.out⟩
set_option maxRecDepth 100000 in
set_option maxHeartbeats 3000000 in
theorem lload_any {A D:Option Addr}{n c m d:Nat}{X:Nat→List Int}{b:List Int}(cap:Int) (ht:Tab w t) (hr:∀ w',Bar [t] w w'→Rwi w' A n X) (hb:∀ w',Bar [t] w w'→Rd w' D m b) (hm:m≤100000) :
  Calls Tryz.prog 8 #[.pointer (some ⟨t,0,none⟩),.agg #[.slice A n c,.int .i64 cap],.slice D m d] w (LoadPost Lk w t n X cap b):=by
 obtain⟨N,hN⟩:∃ N,w.heap.size=N:=⟨_,rfl⟩
 have b0:Below w.heap.size w (w.alloc (.cells #[.slice A n c,.int .i64 cap] 24)):=(Below.refl _ _).alloc (Nat.le_refl _) _
 have X1:Kept (Blk (w.alloc (.cells #[.slice A n c,.int .i64 cap] 24)) N 24 #[.slice A n c,.int .i64 cap]):=⟨Blk.new_at w _ _ N hN.symm⟩
 have HT:Kept (Tab (w.alloc (.cells #[.slice A n c,.int .i64 cap] 24)) t):=⟨ctab_bar ht (barOf b0 []) (by simp)⟩
 have TL:=Kept.mk (ctab_lt ht)
 have HB:=Kept.mk hb
 have KN:=Kept.mk (lnew_any (c:=c) cap HT.out (hr _ (barOf b0 _)))
 have B:=Kept.mk b0
 unfold NewLPost at KN
 clear hr b0 ht hb
 go_enter Tryz.func8,Tryz.ntmps8
 go_upto_region 1 with(fail)
 generalize (w.alloc (.cells #[.slice A n c,.int .i64 cap] 24))=w1 at *
 have x0:=X1.out.cell 0;have x1:=X1.out.cell 1
 go_wp2_with fail
 refine KN.out.mono ?_
 rintro e w2 (⟨hno,rfl,bb⟩|⟨hc,x,F,rfl,hk,bb,hF⟩)
 ·replace HT:=Kept.mk (ctab_bar HT.out (barOf bb []) (by simp))
  replace B:=Kept.mk (B.out.trans (bb.mono B.out.size))
  have HNO:=Kept.mk hno
  clear KN bb hno x0 x1
  go_wp2
  go_ret2
  exact⟨HT.out,barOf B.out _,.inl ⟨HNO.out,rfl⟩⟩
 ·replace B:=Kept.mk (B.out.trans (bb.mono B.out.size))
  have HF:Kept (∀ k∈F,w.heap.size≤k):=⟨fun k hm=>by have:=hF k hm;have h2:=bb.size;have:=X1.out.lt;omega⟩
  have HC:=Kept.mk hc
  have KA:=Kept.mk (again_any (c:=d) hk (newL_wl hc) (newL_wi n X cap) rfl (HB.out w2 (barOf B.out _)) hm)
  unfold AgainPost at KA
  clear KN bb hk hF hc x0 x1 X1 HT
  go_wp2_with fail
  refine KA.out.mono ?_
  rintro e w3 ⟨rfl,F',s1,hk,fp,hre,huni⟩
  have LK:=Kept.mk hk;have HRE:=Kept.mk hre;have HU:=Kept.mk huni
  have BT:Kept (Bar [t] w w3):=⟨(barOf B.out [t]).trans fp.1 (fun z hz=>by
   rcases List.mem_cons.1 hz with e|hz
   ·exact .inl (by simp[e])
   ·exact .inr (HF.out z hz))⟩
  have HF2:Kept (∀ k∈F',w.heap.size≤k):=⟨fun k hm=>by
   rcases fp.2 k (List.mem_cons_of_mem _ hm) with e|e
   ·rcases List.mem_cons.1 e with e|e
    ·exact absurd (e▸hm) hk.lts.2.1
    ·exact HF.out k e
   ·exact Nat.le_trans B.out.size e⟩
  have WS:=Kept.mk (hre.keeps (newL_wl HC.out) (newL_wi n X cap)).wl
  clear KA hk fp hre huni
  have KS:Kept (Calls Tryz.prog 15 #[.pointer (some ⟨x,0,none⟩)] w3 (SavePost s1 w3)):=⟨by
   obtain⟨b2,q2,G2,v2,d2,hL,-⟩:=LK.out
   exact lsave_any WS.out hL⟩
  unfold SavePost at KS
  go_wp2_with fail
  refine KS.out.mono ?_
  rintro e w4 ⟨A5,n5,c5,rfl,h1,h2,h3,-,bb⟩
  replace LK:=Kept.mk (LK.out.below bb)
  replace BT:=Kept.mk (BT.out.trans (barOf bb [t]) (fun _ hx=>.inl hx))
  have KE:=Kept.mk (bequal_any A5 D n5 m c5 d (saveL s1) b w4 h3 (HB.out w4 BT.out))
  obtain⟨q,hq⟩:∃ q,sameB (saveL s1) b=q:=⟨_,rfl⟩
  rw[hq] at KE
  have HQ:=Kept.mk hq
  clear KS h3 bb hq
  go_wp2_with fail
  refine KE.out.mono ?_
  rintro e w5 ⟨rfl,rfl⟩
  clear KE
  cases q with
  | true =>
   have hsb:saveL s1=b:=by
    have:=HQ.out
    unfold sameB at this
    exact of_decide_eq_true this
   have HSB:=Kept.mk hsb
   clear hsb
   go_wp2
   go_ret2
   exact⟨LK.out.lts.2.2,BT.out,.inr (.inr ⟨HC.out,s1,x,F',rfl,HRE.out,HSB.out,LK.out,HF2.out⟩)⟩
  | false =>
   have hsb:saveL s1≠b:=by
    have:=HQ.out
    unfold sameB at this
    exact of_decide_eq_false this
   have HSB:=Kept.mk hsb
   clear hsb
   go_wp2
   go_ret2
   exact⟨LK.out.lts.2.2,BT.out,.inr (.inl ⟨HC.out,rfl,fun s hr hs=>by
    have:=HU.out s hr hs
    rw[this] at HSB
    exact HSB.out hs⟩)⟩
end
theorem lapi:LedgerApi Lk where
 lts h:=h.lts
 keep h b j ht:=h.keep b j ht
 new cap ht hr:=lnew_any cap ht hr
 apply party clock seen h W WI_ hr off hok _ hn hc hcm:=lapply_any party clock seen h W WI_ hr off hok hn hc hcm
 clock h:=by
  obtain⟨b,q,G,v,d,h,rfl⟩:=h
  exact lclk_any h
 events h W:=by
  obtain⟨b,q,G,v,d,h,rfl⟩:=h
  exact levents_any W h
 escrow id h _:=by
  obtain⟨b,q,G,v,d,h,rfl⟩:=h
  exact lescrow_any id h
 total a h W:=by
  obtain⟨b,q,G,v,d,h,rfl⟩:=h
  exact ltotal_any a W h
 save h W:=by
  obtain⟨b,q,G,v,d,h,rfl⟩:=h
  exact lsave_any W h
 load cap ht hr hb hm _ _:=lload_any cap ht hr hb hm
end Go.Proofs.YtchcgoabogcabaaGreat.Ledger
