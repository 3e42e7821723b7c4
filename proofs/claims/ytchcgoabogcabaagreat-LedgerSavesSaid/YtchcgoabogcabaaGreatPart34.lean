/-
  Parts laid together: LedgerR4 LedgerR6.
-/
import Derived.Test.YtchcgoabogcabaaGreatPart14
import Derived.Test.YtchcgoabogcabaaGreatPart1
import Derived.Test.YtchcgoabogcabaaGreatPart32
import Derived.Test.YtchcgoabogcabaaGreatPart22
import Derived.Test.YtchcgoabogcabaaGreatPart8
import Derived.Test.YtchcgoabogcabaaGreatPart6
import Derived.Test.YtchcgoabogcabaaGreatPart5
import Derived.LoopN
import Derived.Test.YtchcgoabogcabaaGreatPart33
import Derived.Test.YtchcgoabogcabaaGreatPart16
import Derived.Test.YtchcgoabogcabaaGreatPart17
import Derived.Test.YtchcgoabogcabaaGreatPart31
import Derived.Test.YtchcgoabogcabaaGreatPart12
import Derived.Test.YtchcgoabogcabaaGreatPart10
import Derived.Test.YtchcgoabogcabaaGreatPart9
namespace Go.Proofs.YtchcgoabogcabaaGreat.Ledger
open Go.RowKit Go.Proofs.YtchcgoabogcabaaGreat.Num Go.Proofs.YtchcgoabogcabaaGreat.Sha Go.Proofs.YtchcgoabogcabaaGreat.Purse Go.Proofs.YtchcgoabogcabaaGreat.Escrow Go.Proofs.YtchcgoabogcabaaGreat.Wire Go.Proofs.YtchcgoabogcabaaGreat.Req
theorem info_reps2:(Tryz.prog.info? 63).map (fun i=>(i.zero,i.size,i.bytes))=some (some (.agg #[.int .i64 0,.int .i64 0]),2,16):=by kernel_rfl
theorem pvC_len2 (x:PV):(pvC x).length=2:=rfl
theorem vvC_len2 (x:VV):(vvC x).length=9:=rfl
theorem answer_size2:(Tryz.prog.info? 59).map (·.size)=some 4:=by kernel_rfl
theorem tickB_iff {n:Int}:tickB n=true ↔ Tck n:=tick_iff
def RApplyPost (w:World) (F:List Nat) (x:Nat) (r:AV × LS) (e:Ending) (w':World):Prop :=
 ∃ F' A n c D m d,e=.returned (.agg #[.int .i64 r.1.clock,.int .i64 r.1.seen,.slice A n c,.slice D m d])∧n≤c∧c≤9223372036854775807∧m≤d∧d≤9223372036854775807∧Rp w' A n r.1.p∧Rv w' D m r.1.v∧NewRow w F' A∧NewRow w F' D ∧
  Dk w' F' x r.2∧Fp F F' w w'
structure Aq (w wr:World) (x N R M:Nat) (F0 F:List Nat) (xc yc mc:Array Value) (s:LS):Prop where
 lk:Dk wr F x s
 fp:Fp F0 F w wr
 X:Blk wr N 53 xc
 Y:Blk wr R 59 yc
 V:Blk wr M 59 mc
 nf:N∉F
 rf:R∉F
 mf:M∉F
section
variable {w wr wr' : World} {x N R M : Nat} {F0 F F' : List Nat} {xc yc mc mc' : Array Value} {s s' : LS}
theorem Aq.below (h:Aq w wr x N R M F0 F xc yc mc s) (b:Below wr.heap.size wr wr'):Aq w wr' x N R M F0 F xc yc mc s :=
 ⟨h.lk.below b,h.fp.trans ⟨barOf b _,fun _ hk=>.inl hk⟩,h.X.below b h.X.lt,h.Y.below b h.Y.lt,h.V.below b h.V.lt,h.nf,h.rf,h.mf⟩
theorem Aq.step (h:Aq w wr x N R M F0 F xc yc mc s) (k:Dk wr' F' x s') (fp:Fp F F' wr wr'):Aq w wr' x N R M F0 F' xc yc mc s' :=
 ⟨k,h.fp.trans fp,h.X.bar fp.1 h.nf,h.Y.bar fp.1 h.rf,h.V.bar fp.1 h.mf,off_fp h.nf h.X.lt fp,off_fp h.rf h.Y.lt fp,off_fp h.mf h.V.lt fp⟩
theorem Aq.grown {ov:Value}(h:Aq w wr x N R M F0 F xc yc mc s) (hlo:∀ g∈ov.ownBlock.toList,w.heap.size≤g) (hd:∀ g∈ov.ownBlock.toList,g∉F∧g≠N∧g≠R∧g≠M) (hg:wr.grownBy wr' ov.ownBlock):Aq w wr' x N R M F0 F xc yc mc s:=by
 have b:=Bar.grownRow hg
 exact⟨h.lk.keep b (fun k hk hm=>(hd k hm).1 hk),⟨h.fp.1.trans b (fun g hg=>.inr (hlo g hg)),h.fp.2⟩,h.X.bar b (fun hm=>(hd N hm).2.1 rfl),h.Y.bar b (fun hm=>(hd R hm).2.2.1 rfl),h.V.bar b (fun hm=>(hd M hm).2.2.2 rfl),h.nf,h.rf,h.mf⟩
theorem Aq.put (h:Aq w wr x N R M F0 F xc yc mc s) (hm:w.heap.size≤M) (hn:N≠M) (hr:R≠M) (b:Bar [M] wr wr') (hV:Blk wr' M 59 mc'):Aq w wr' x N R M F0 F xc yc mc' s :=
 ⟨h.lk.keep b (fun k hk hm=>h.mf (by rw[List.mem_singleton] at hm;exact hm▸hk)),⟨h.fp.1.trans b (fun g hg=>.inr (by rw[List.mem_singleton] at hg;omega)),h.fp.2⟩,h.X.bar b (by rw[List.mem_singleton];exact hn),h.Y.bar b (by rw[List.mem_singleton];exact hr),hV,h.nf,h.rf,h.mf⟩
theorem Aq.lt (h:Aq w wr x N R M F0 F xc yc mc s):∀ k∈F,k < wr.heap.size:=h.lk.lts
structure Ox (w wr:World) (N R M:Nat) (F:List Nat) (ov:Value) (l:List PV):Prop where
 o:wr.ownsRow w.heap.size 63 2 ov l.length (l.flatMap pvC)
 far:∀ g∈ov.ownBlock.toList,g∉F∧g≠N∧g≠R∧g≠M
theorem Ox.lo {ov:Value}{l:List PV}(h:Ox w wr N R M F ov l):∀ g∈ov.ownBlock.toList,w.heap.size≤g:=fun g hg=>(h.o.lt g (by simpa using hg)).1
theorem Ox.lt {ov:Value}{l:List PV}(h:Ox w wr N R M F ov l):∀ g∈ov.ownBlock.toList,g < wr.heap.size:=fun g hg=>(h.o.lt g (by simpa using hg)).2
theorem Ox.bar {ov:Value}{l:List PV}{K:List Nat}(h:Ox w wr N R M F ov l) (b:Bar K wr wr') (hK:∀ g∈ov.ownBlock.toList,g∉K):Ox w wr' N R M F ov l:=⟨own_keep h.o b hK,h.far⟩
theorem Ox.step {ov:Value}{l:List PV}(h:Ox w wr N R M F ov l) (fp:Fp F F' wr wr'):Ox w wr' N R M F' ov l :=
 ⟨own_keep h.o fp.1 (fun g hg=>(h.far g hg).1),fun g hg=>⟨off_fp (h.far g hg).1 (h.lt g hg) fp,(h.far g hg).2⟩⟩
theorem Ox.grown {v v':Value}{l:List PV}{y:PV}(h:Ox w wr N R M F v l) (q:Aq w wr x N R M F0 F xc yc mc s) (ho:wr'.ownsRow w.heap.size 63 2 v' (l.length+1) (l.flatMap pvC++pvC y)) (hat:∀ g∈v'.ownBlock.toList,g∈v.ownBlock.toList∨g=wr.heap.size):Ox w wr' N R M F v' (l++[y]) :=
 ⟨by rw[List.flatMap_append,List.length_append,List.flatMap_singleton];exact ho,fun g hg=>by
  rcases hat g hg with k|k
  ·exact h.far g k
  ·have h1:=q.X.lt;have h2:=q.Y.lt;have h3:=q.V.lt
   exact⟨fun hm=>by have:=q.lt g hm;omega,by omega,by omega,by omega⟩⟩
end
section
variable {w : World} {x : Nat} {F : List Nat} {s : LS}
theorem rtick_dk (h:Dk w F x s) (clock:Int):∃ w2,Dk w2 F x ⟨s.cap,s.b,clock,s.e⟩∧w2=w.setCell ⟨x,3,none⟩ (.int .i64 clock)∧Fp F F w w2∧w.cell? ⟨x,3,none⟩=some (.int .i64 s.clock):=by
 obtain⟨F0,b,q,st,d,d1,d2,h,rfl⟩:=h
 obtain⟨h1,h2⟩:=h.tick clock
 exact⟨_,⟨F0,b,q,st,d,d1,d2,h1,rfl⟩,rfl,h2,h.c3⟩
theorem Dk.cells (h:Dk w F x s):x∈F∧w.cell? ⟨x,3,none⟩=some (.int .i64 s.clock)∧w.frozen? ⟨x,3,none⟩=false∧∃ A c,w.cell? ⟨x,4,none⟩=some (.slice A s.e.length c)∧s.e.length≤c∧c≤9223372036854775807∧Rv w A s.e.length (evs s)∧(∀ b o,A=some ⟨b,o,none⟩→s.e.length≠0→b∈F):=by
 obtain⟨F0,b,q,st,d,d1,d2,h,rfl⟩:=h
 obtain⟨A,c,hd,h1,h2,h3,h4⟩:=h.events
 refine⟨df_mem.2 (.inl rfl),h.c3,h.blk.frozen 3,A,c,h1,h2,h3,h4,fun b o hA _=>?_⟩
 subst hA
 exact df_mem.2 (.inr (.inr (own3_mem.2 (.inl (by rw[hd];simp[Value.ownBlock])))))
set_option maxRecDepth 100000 in
set_option maxHeartbeats 4000000 in
theorem rapply_any {A:Option Addr}{n c:Nat}{l:List RV}(party clock seen:Int) (h:Dk w F x s) (W:WL s) (WI_:WI s) (hr:Rr w A n l) (off:Off A n F) (hok:∀ r∈l,r.ok) (hn:n≤100000) :
  Calls Tryz.prog 20 #[.pointer (some ⟨x,0,none⟩),.int .i64 party,.int .i64 clock,.agg #[.int .i64 seen,.slice A n c]] w (RApplyPost w F x (applyL s party clock ⟨seen,l⟩)):=by
 obtain⟨N,hN⟩:∃ N,w.heap.size=N:=⟨_,rfl⟩
 obtain⟨R,hR⟩:∃ R,(w.alloc (.cells #[.int .i64 seen,.slice A n c] 53)).heap.size=R:=⟨_,rfl⟩
 have b0:Below w.heap.size w (w.alloc (.cells #[.int .i64 seen,.slice A n c] 53)):=(Below.refl _ _).alloc (Nat.le_refl _) _
 have x0:Blk (w.alloc (.cells #[.int .i64 seen,.slice A n c] 53)) N 53 #[.int .i64 seen,.slice A n c]:=Blk.new_at w _ _ N hN.symm
 have b1:Below (w.alloc (.cells #[.int .i64 seen,.slice A n c] 53)).heap.size (w.alloc (.cells #[.int .i64 seen,.slice A n c] 53)) ((w.alloc (.cells #[.int .i64 seen,.slice A n c] 53)).alloc (.cells #[.int .i64 0,.int .i64 0,.slice none 0 0,.slice none 0 0] 59)):=(Below.refl _ _).alloc (Nat.le_refl _) _
 have NR:Kept (w.heap.size≤N∧w.heap.size≤R∧N < R):=⟨by omega,by have:=x0.lt;omega,by have:=x0.lt;omega⟩
 have HN0:Kept (∀ k∈F,k < w.heap.size):=⟨h.lts⟩
 have B:Kept (Below w.heap.size w ((w.alloc (.cells #[.int .i64 seen,.slice A n c] 53)).alloc (.cells #[.int .i64 0,.int .i64 0,.slice none 0 0,.slice none 0 0] 59))):=⟨b0.trans (b1.mono b0.size)⟩
 have X:Kept (Blk ((w.alloc (.cells #[.int .i64 seen,.slice A n c] 53)).alloc (.cells #[.int .i64 0,.int .i64 0,.slice none 0 0,.slice none 0 0] 59)) N 53 #[.int .i64 seen,.slice A n c]):=⟨x0.below b1 x0.lt⟩
 have Y:Kept (Blk ((w.alloc (.cells #[.int .i64 seen,.slice A n c] 53)).alloc (.cells #[.int .i64 0,.int .i64 0,.slice none 0 0,.slice none 0 0] 59)) R 59 #[.int .i64 0,.int .i64 0,.slice none 0 0,.slice none 0 0]):=⟨Blk.new_at _ _ _ R hR.symm⟩
 have L:=Kept.mk (h.below B.out)
 have HR:=Kept.mk hr;have HOFF:=Kept.mk off;have HOK:=Kept.mk hok
 have KK:=Kept.mk (clockL_keeps W WI_ clock)
 have HTK:Kept (∀ m,m≤n→(m=n∨m=64)→m≤64→l.take m=l.take 64):=⟨fun m h1 h2 h3=>by
  have hl:l.length=n:=hr.1
  rcases h2 with e|e
  ·rw[List.take_of_length_le (by omega),List.take_of_length_le (by omega)]
  ·rw[e]⟩
 clear b0 b1 x0 h W WI_ hr off hok
 go_enter Tryz.func20,Tryz.ntmps20
 go_upto_region 1 with(fail)
 generalize ((w.alloc (.cells #[.int .i64 seen,.slice A n c] 53)).alloc (.cells #[.int .i64 0,.int .i64 0,.slice none 0 0,.slice none 0 0] 59))=w1 at *
 clear hN hR
 have KT:=Kept.mk (rtick_any clock w1)
 obtain⟨tb,htb⟩:∃ tb,tickB clock=tb:=⟨_,rfl⟩
 rw[htb] at KT
 have HTB:=Kept.mk htb
 clear htb
 obtain⟨-,x3,f3,-⟩:=L.out.cells
 obtain⟨s1,hs1⟩:∃ s1,clockL s clock=s1:=⟨_,rfl⟩
 rw[hs1] at KK
 have HS1:=Kept.mk hs1
 clear hs1
 have FP0:Kept (Fp F F w w1):=⟨⟨barOf B.out _,fun _ hk=>.inl hk⟩⟩
 have NO:Kept (N∉F∧R∉F):=⟨fun hm=>by have:=HN0.out N hm;have:=NR.out;omega,fun hm=>by have:=HN0.out R hm;have:=NR.out;omega⟩
 go_cut [20] (fun tz wx=>∃ q:Bool,tz=.bool q∧wx=w1∧Kept (s1=if q=true then ⟨s.cap,s.b,clock,s.e⟩ else s))
 case first =>
  go_wp2_with fail
  refine KT.out.mono ?_
  rintro e w2 ⟨rfl,rfl⟩
  clear KT
  cases tb with
  | false =>
   have hs:Kept (s1=if false=true then ⟨s.cap,s.b,clock,s.e⟩ else s):=⟨by
    rw[← HS1.out];unfold clockL
    rw[if_neg (fun k=>by have:=HTB.out;rw[tickB_iff.2 k.1] at this;cases this)];rfl⟩
   go_wp2
   go_meet
   case rel=>exact⟨_,rfl,rfl,hs⟩
  | true =>
   by_cases hlt:s.clock < clock
   ·have hs:Kept (s1=if true=true then ⟨s.cap,s.b,clock,s.e⟩ else s):=⟨by
     rw[← HS1.out];unfold clockL
     rw[if_pos ⟨tickB_iff.1 HTB.out,hlt⟩];rfl⟩
    go_wp2
    go_meet
    case rel=>exact⟨_,rfl,rfl,hs⟩
   ·have hs:Kept (s1=if false=true then ⟨s.cap,s.b,clock,s.e⟩ else s):=⟨by
     rw[← HS1.out];unfold clockL
     rw[if_neg (fun k=>hlt k.2)];rfl⟩
    have hlt':(s.clock < clock)=False:=eq_false hlt
    go_wp2
    go_meet
    case rel=>exact⟨_,rfl,rfl,hs⟩
 case rest =>
 clear x3 f3 KT
 obtain⟨q,rfl,rfl,HSQ⟩:=hcut
 go_upto_if 20 with(fail)
 go_cut [20] from 21 to 24 (fun _ wx=>Kept (Dk wx F x s1)∧Kept (Fp F F w wx)∧Kept (Blk wx N 53 #[.int .i64 seen,.slice A n c])∧Kept (Blk wx R 59 #[.int .i64 0,.int .i64 0,.slice none 0 0,.slice none 0 0]))
 case first =>
  cases q with
  | false =>
   have hs:=HSQ.out
   rw[if_neg (by decide)] at hs
   subst hs
   go_wp2
   go_meet
   case rel=>exact⟨L,FP0,X,Y⟩
  | true =>
   have hs:=HSQ.out
   rw[if_pos rfl] at hs
   have HS:=Kept.mk hs
   obtain⟨-,x3,f3,-⟩:=L.out.cells
   obtain⟨w3,k1,k2,k3,-⟩:=rtick_dk L.out clock
   have k4:=X.out.bar k3.1 NO.out.1;have k5:=Y.out.bar k3.1 NO.out.2
   have E:=Kept.mk (And.intro k1 (And.intro (FP0.out.trans k3) (And.intro k4 k5)))
   have K2:=Kept.mk k2
   clear k1 k2 k3 k4 k5 hs
   go_wp2
   go_meet
   case rel=>rw[HS.out,← K2.out];exact⟨⟨E.out.1⟩,⟨E.out.2.1⟩,⟨E.out.2.2.1⟩,⟨E.out.2.2.2⟩⟩
 case rest =>
 clear L X Y B HTB FP0 HSQ
 obtain⟨L,FP,X,Y⟩:=hcut
 generalize wc=w2 at *
 obtain⟨M,hM⟩:∃ M,w2.heap.size=M:=⟨_,rfl⟩
 have b1:Below w2.heap.size w2 (w2.alloc (.cells #[.int .i64 0,.int .i64 0,.slice none 0 0,.slice none 0 0] 59)):=(Below.refl _ _).alloc (Nat.le_refl _) _
 have MN:Kept (N < M∧R < M∧w.heap.size≤M):=⟨by have:=X.out.lt;have:=Y.out.lt;have:=FP.out.1.size;omega⟩
 have P2:Kept (Aq w (w2.alloc (.cells #[.int .i64 0,.int .i64 0,.slice none 0 0,.slice none 0 0] 59)) x N R M F F #[.int .i64 seen,.slice A n c] #[.int .i64 0,.int .i64 0,.slice none 0 0,.slice none 0 0] #[.int .i64 0,.int .i64 0,.slice none 0 0,.slice none 0 0] (manyL s1 party (l.take 0)).2):=⟨⟨L.out.below b1,FP.out.trans ⟨barOf b1 _,fun _ hk=>.inl hk⟩,X.out.below b1 X.out.lt,Y.out.below b1 Y.out.lt,Blk.new_at _ _ _ M hM.symm,
  fun hm=>by have:=HN0.out N hm;have:=NR.out;omega,fun hm=>by have:=HN0.out R hm;have:=NR.out;omega,fun hm=>by have:=HN0.out M hm;have:=MN.out;omega⟩⟩
 have O2:Kept (Ox w (w2.alloc (.cells #[.int .i64 0,.int .i64 0,.slice none 0 0,.slice none 0 0] 59)) N R M F (.slice none 0 0) (manyL s1 party (l.take 0)).1):=⟨⟨World.ownsRow_nil _ _ _ _,fun g hg=>by simp[Value.ownBlock] at hg⟩⟩
 clear L X Y FP b1
 go_upto_region 4 with(fail)
 generalize (w2.alloc (.cells #[.int .i64 0,.int .i64 0,.slice none 0 0,.slice none 0 0] 59))=w3 at *
 clear hM
 go_upto_block 0 with(fail)
 go_cut [10] from 25 to 48 (fun _ wx=>∃ (F3:List Nat) (ov:Value),Kept (Aq w wx x N R M F F3 #[.int .i64 seen,.slice A n c] #[.int .i64 0,.int .i64 0,.slice none 0 0,.slice none 0 0] #[.int .i64 0,.int .i64 0,ov,.slice none 0 0] (manyL s1 party (l.take 64)).2)∧Kept (Ox w wx N R M F3 ov (manyL s1 party (l.take 64)).1))
 case first =>
  go_wp2
  go_loopw [10] (fun i wr=>∃ (k:Nat) (F3:List Nat) (ov:Value),k≤n∧k≤64∧i=.int .i64 k∧Kept (Aq w wr x N R M F F3 #[.int .i64 seen,.slice A n c] #[.int .i64 0,.int .i64 0,.slice none 0 0,.slice none 0 0] #[.int .i64 0,.int .i64 0,ov,.slice none 0 0] (manyL s1 party (l.take k)).2)∧Kept (Ox w wr N R M F3 ov (manyL s1 party (l.take k)).1)) (fun i _=>64 - (Go.RowKit.intOf i).toNat)
  case atStart=>exact⟨0,F,.slice none 0 0,by omega,by omega,rfl,P2,O2⟩
  case round =>
   clear P2 O2
   obtain⟨k,F3,ov,hkn,hk64,rfl,Q,O⟩:=hrel
   have x1:=Q.out.X.cell 1
   by_cases hk1:k < n
   ·by_cases hk2:k < 64
    ·as_aux_lemma =>
     have hk1':(k:Int) < n:=by omega
     have hk2':(k:Int) < 64:=by omega
     obtain⟨g,go,y,hA,hy,hyc⟩:=HR.out.at_ hk1
     subst hA
     have HY:=Kept.mk hy
     have HYO:Kept y.ok:=⟨HOK.out y (List.mem_of_getElem? hy)⟩
     have HTS:Kept (l.take (k+1)=l.take k++[y]):=⟨by
      obtain⟨h1,h2⟩:=List.getElem?_eq_some_iff.1 hy
      rw[List.take_succ_eq_append_getElem h1,h2]⟩
     obtain⟨kind,dst,asset,amount,id,due,hash,sec⟩:=y
     have HYC:Kept (∀ u,Bar F w u→u.cell? ⟨g,go+k * 8,none⟩=some (.int .i64 kind)∧u.cell? ⟨g,go+k * 8+1,none⟩=some (.int .i64 dst)∧u.cell? ⟨g,go+k * 8+2,none⟩=some (.int .i64 asset)∧u.cell? ⟨g,go+k * 8+3,none⟩=some (.int .i64 amount)∧u.cell? ⟨g,go+k * 8+4,none⟩=some (.int .i64 id)∧u.cell? ⟨g,go+k * 8+5,none⟩=some (.int .i64 due)∧u.cell? ⟨g,go+k * 8+6,none⟩=some (.string (strOfNums hash))∧u.cell? ⟨g,go+k * 8+7,none⟩=some (.string (strOfNums sec))):=⟨fun u hb=>by
      have hgF:g∉F:=fun hm=>by
       rcases HOFF.out with h0|⟨g',o',e,hg'⟩
       ·omega
       ·injection e with e;injection e with e1 e2
        exact hg' (e1▸hm)
      have hf:∀ {j:Nat} {v:Value},w.cell? ⟨g,j,none⟩=some v→u.cell? ⟨g,j,none⟩=some v:=fun {j} {v} hh=>by
       rw[World.cell?_of_block (hb.block g (World.block_lt_of_cell? _ _ hh) hgF)];exact hh
      exact⟨hf (hyc 0 _ rfl),hf (hyc 1 _ rfl),hf (hyc 2 _ rfl),hf (hyc 3 _ rfl),hf (hyc 4 _ rfl),hf (hyc 5 _ rfl),hf (hyc 6 _ rfl),hf (hyc 7 _ rfl)⟩⟩
     clear hyc hy
     obtain⟨s3,hs3⟩:∃ s3,(manyL s1 party (l.take k)).2=s3:=⟨_,rfl⟩
     obtain⟨p3,hp3⟩:∃ p3,(manyL s1 party (l.take k)).1=p3:=⟨_,rfl⟩
     have HK3:Kept (Keeps s1 s3):=⟨by rw[← hs3];exact(manyL_keeps KK.out.wl KK.out.wi party _ (fun r hr=>HOK.out r (List.mem_of_mem_take hr))).1⟩
     have HPL:Kept (p3.length=k):=⟨by rw[← hp3,manyL_len,List.length_take];have:=HR.out.1;omega⟩
     have HSN:Kept ((manyL s1 party (l.take (k+1))).2=(oneL s3 party ⟨kind,dst,asset,amount,id,due,hash,sec⟩).2∧(manyL s1 party (l.take (k+1))).1=p3++[(oneL s3 party ⟨kind,dst,asset,amount,id,due,hash,sec⟩).1]):=⟨by rw[HTS.out,manyL_snoc,hs3,hp3];exact⟨rfl,rfl⟩⟩
     rw[hs3] at Q
     rw[hp3] at O
     clear hs3 hp3
     obtain⟨Ao,co,hov⟩:=own_shape O.out.o
     rw[HPL.out] at hov
     subst hov
     go_upto_region 7 with(fail)
     clear x1
     refine wp_region_noPanic ?_
     have bb:Below wr.heap.size wr wr.drew:=(Below.refl _ _).drew
     replace Q:=Kept.mk (Q.out.below bb);replace O:=Kept.mk (O.out.bar (barOf bb []) (by simp))
     clear bb
     have CS:Kept (∀ u,Aq w u x N R M F F3 #[.int .i64 seen,.slice (some ⟨g,go,none⟩) n c] #[.int .i64 0,.int .i64 0,.slice none 0 0,.slice none 0 0] #[.int .i64 0,.int .i64 0,.slice Ao k co,.slice none 0 0] s3→u.cell? ⟨N,1,none⟩=some (.slice (some ⟨g,go,none⟩) n c)∧u.cell? ⟨M,2,none⟩=some (.slice Ao k co)∧u.cell? ⟨g,go+k * 8,none⟩=some (.int .i64 kind)∧u.cell? ⟨g,go+k * 8+1,none⟩=some (.int .i64 dst)∧u.cell? ⟨g,go+k * 8+2,none⟩=some (.int .i64 asset)∧u.cell? ⟨g,go+k * 8+3,none⟩=some (.int .i64 amount)∧u.cell? ⟨g,go+k * 8+4,none⟩=some (.int .i64 id)∧u.cell? ⟨g,go+k * 8+5,none⟩=some (.int .i64 due)∧u.cell? ⟨g,go+k * 8+6,none⟩=some (.string (strOfNums hash))∧u.cell? ⟨g,go+k * 8+7,none⟩=some (.string (strOfNums sec))):=⟨fun u hq=>⟨hq.X.cell 1,hq.V.cell 2,HYC.out u hq.fp.1⟩⟩
     refine wp_region_U 13 (S:=fun u:World=>u.cell? ⟨N,1,none⟩=some (.slice (some ⟨g,go,none⟩) n c)∧u.cell? ⟨M,2,none⟩=some (.slice Ao k co)∧u.cell? ⟨g,go+k * 8,none⟩=some (.int .i64 kind)∧u.cell? ⟨g,go+k * 8+1,none⟩=some (.int .i64 dst)∧u.cell? ⟨g,go+k * 8+2,none⟩=some (.int .i64 asset)∧u.cell? ⟨g,go+k * 8+3,none⟩=some (.int .i64 amount)∧u.cell? ⟨g,go+k * 8+4,none⟩=some (.int .i64 id)∧u.cell? ⟨g,go+k * 8+5,none⟩=some (.int .i64 due)∧u.cell? ⟨g,go+k * 8+6,none⟩=some (.string (strOfNums hash))∧u.cell? ⟨g,go+k * 8+7,none⟩=some (.string (strOfNums sec))) (by kernel_rfl) (CS.out _ Q.out) (fun hS0=>?_)
     generalize wr.drew=w4 at *
     have KQ:=rone_any party ⟨kind,dst,asset,amount,id,due,hash,sec⟩ HK3.out.wl HYO.out Q.out.lk
     obtain⟨⟨⟨pc,pi⟩,s4⟩,hO⟩:∃ O,oneL s3 party ⟨kind,dst,asset,amount,id,due,hash,sec⟩=O:=⟨_,rfl⟩
     rw[hO] at KQ HSN
     unfold DStep rqv pqv at KQ
     dsimp only at KQ HSN
     have KQ2:=Kept.mk KQ
     clear KQ hO
     refine tkU 0 (by assumption) ?_
     simp only[Act.put,zA,zB,zC]
     refine tkU 1 (by assumption) ?_
     simp only[Act.put,zA,zB,zC]
     refine tkU 2 (by assumption) ?_
     simp only[Act.put,zA,zB,zC]
     refine tkU 3 (by assumption) ?_
     simp only[Act.put,zA,zB,zC]
     refine tkU 4 (by assumption) ?_
     simp only[Act.put,zA,zB,zC]
     refine tkU 5 (by assumption) ?_
     simp only[Act.put,zA,zB,zC]
     refine tkU 6 (by assumption) ?_
     simp only[Act.put,zA,zB,zC]
     refine tkU 7 (by assumption) ?_
     simp only[Act.put,zA,zB,zC]
     refine tkU 8 (by assumption) ?_
     simp only[Act.put,zA,zB,zC]
     refine ldU 9 (fun K hK=>?_)
     go_simp
     go_at_call 46
     refine KQ2.out.mono ?_
     rintro e w5 ⟨rfl,F4,hk4,fp⟩
     have hS5:w5.cell? ⟨N,1,none⟩=some (.slice (some ⟨g,go,none⟩) n c)∧w5.cell? ⟨M,2,none⟩=some (.slice Ao k co)∧w5.cell? ⟨g,go+k * 8,none⟩=some (.int .i64 kind)∧w5.cell? ⟨g,go+k * 8+1,none⟩=some (.int .i64 dst)∧w5.cell? ⟨g,go+k * 8+2,none⟩=some (.int .i64 asset)∧w5.cell? ⟨g,go+k * 8+3,none⟩=some (.int .i64 amount)∧w5.cell? ⟨g,go+k * 8+4,none⟩=some (.int .i64 id)∧w5.cell? ⟨g,go+k * 8+5,none⟩=some (.int .i64 due)∧w5.cell? ⟨g,go+k * 8+6,none⟩=some (.string (strOfNums hash))∧w5.cell? ⟨g,go+k * 8+7,none⟩=some (.string (strOfNums sec)):=⟨(Q.out.step hk4 fp).X.cell 1,(Q.out.step hk4 fp).V.cell 2,HYC.out w5 (Q.out.step hk4 fp).fp.1⟩
     refine hK.out _ _ (fun _=>hS5) (fun _=>?_)
     replace Q:=Kept.mk (Q.out.step hk4 fp);replace O:=Kept.mk (O.out.step fp)
     clear hK K KQ2 hk4 fp hS0
     try simp only[Act.put,zA,zB,zC]
     refine ldU 10 (fun K hK=>?_)
     go_simp
     have b2:Below w5.heap.size w5 (w5.alloc (.cells #[.int .i64 pc,.int .i64 pi] 63)):=(Below.refl _ _).alloc (Nat.le_refl _) _
     have NW:=Kept.mk (World.news_of_block (cs:=#[.int .i64 pc,.int .i64 pi]) (t:=63) (fr:=(0,0)) (heap_alloc_new w5 _))
     replace Q:=Kept.mk (Q.out.below b2);replace O:=Kept.mk (O.out.bar (barOf b2 []) (by simp))
     have hS6:(w5.alloc (.cells #[.int .i64 pc,.int .i64 pi] 63)).cell? ⟨N,1,none⟩=some (.slice (some ⟨g,go,none⟩) n c)∧(w5.alloc (.cells #[.int .i64 pc,.int .i64 pi] 63)).cell? ⟨M,2,none⟩=some (.slice Ao k co)∧(w5.alloc (.cells #[.int .i64 pc,.int .i64 pi] 63)).cell? ⟨g,go+k * 8,none⟩=some (.int .i64 kind)∧(w5.alloc (.cells #[.int .i64 pc,.int .i64 pi] 63)).cell? ⟨g,go+k * 8+1,none⟩=some (.int .i64 dst)∧(w5.alloc (.cells #[.int .i64 pc,.int .i64 pi] 63)).cell? ⟨g,go+k * 8+2,none⟩=some (.int .i64 asset)∧(w5.alloc (.cells #[.int .i64 pc,.int .i64 pi] 63)).cell? ⟨g,go+k * 8+3,none⟩=some (.int .i64 amount)∧(w5.alloc (.cells #[.int .i64 pc,.int .i64 pi] 63)).cell? ⟨g,go+k * 8+4,none⟩=some (.int .i64 id)∧(w5.alloc (.cells #[.int .i64 pc,.int .i64 pi] 63)).cell? ⟨g,go+k * 8+5,none⟩=some (.int .i64 due)∧(w5.alloc (.cells #[.int .i64 pc,.int .i64 pi] 63)).cell? ⟨g,go+k * 8+6,none⟩=some (.string (strOfNums hash))∧(w5.alloc (.cells #[.int .i64 pc,.int .i64 pi] 63)).cell? ⟨g,go+k * 8+7,none⟩=some (.string (strOfNums sec)):=⟨Q.out.X.cell 1,Q.out.V.cell 2,HYC.out _ Q.out.fp.1⟩
     refine hK.out _ _ (fun _=>hS6) (fun _=>?_)
     clear hK K hS5 b2
     try simp only[Act.put,zA,zB,zC]
     generalize (w5.alloc (.cells #[.int .i64 pc,.int .i64 pi] 63))=w6 at *
     generalize w5.heap.size=gB at *
     obtain⟨iu,hi,hz0,hz1,hz2⟩:=info_parts info_reps2
     have hplk:=HPL.out
     refine ldU 11 (fun K hK=>?_)
     refine step_append_lies _ (by rfl) _ _ _ (by rfl) w.heap.size 63 iu (.agg #[.int .i64 0,.int .i64 0]) 2 16 Tryz.underlying57 hi hz0 hz1 hz2 rfl (by omega) (.slice Ao k co) p3.length (p3.flatMap pvC) (by rfl) O.out.o
      ⟨gB,0,none⟩ 1 1 (pvC ⟨pc,pi⟩) (by rfl) (by rfl) NW.out (pvC_one _) (by omega) (by unfold maxLen;omega) (by omega) Q.out.fp.1.size w6.heap.size rfl ?_
     intro gg cg w7 hown hgrow hat hlt
     have hO7:=O.out.grown Q.out hown (fun z hz=>by
      rcases hat with e|e
      ·exact .inl (by rw[e];simpa [Value.ownBlock] using hz)
      ·right;simp[Value.ownBlock] at hz;omega)
     have hQ7:=Q.out.grown O.out.lo O.out.far hgrow
     have hS7:w7.cell? ⟨N,1,none⟩=some (.slice (some ⟨g,go,none⟩) n c)∧w7.cell? ⟨M,2,none⟩=some (.slice Ao k co)∧w7.cell? ⟨g,go+k * 8,none⟩=some (.int .i64 kind)∧w7.cell? ⟨g,go+k * 8+1,none⟩=some (.int .i64 dst)∧w7.cell? ⟨g,go+k * 8+2,none⟩=some (.int .i64 asset)∧w7.cell? ⟨g,go+k * 8+3,none⟩=some (.int .i64 amount)∧w7.cell? ⟨g,go+k * 8+4,none⟩=some (.int .i64 id)∧w7.cell? ⟨g,go+k * 8+5,none⟩=some (.int .i64 due)∧w7.cell? ⟨g,go+k * 8+6,none⟩=some (.string (strOfNums hash))∧w7.cell? ⟨g,go+k * 8+7,none⟩=some (.string (strOfNums sec)):=⟨hQ7.X.cell 1,hQ7.V.cell 2,HYC.out _ hQ7.fp.1⟩
     refine hK.out _ _ (fun _=>hS7) (fun _=>?_)
     replace Q:=Kept.mk hQ7;replace O:=Kept.mk hO7
     clear hK K hplk hS6 hown hgrow hat hlt hi hz0 hz1 hz2 iu NW hO7 hQ7
     try simp only[Act.put,zA,zB,zC]
     refine tkU 12 (by assumption) ?_
     simp only[Act.put,zA,zB,zC]
     have m2:w7.cell? ⟨M,2,none⟩=some (.slice Ao k co):=Q.out.V.cell 2
     have f2:=Q.out.V.frozen 2
     have V2:=Q.out.V.set_ 2 (.slice (some ⟨gg,0,none⟩) (p3.length+1) cg)
     have bM:Bar [M] w7 (w7.setCell ⟨M,2,none⟩ (.slice (some ⟨gg,0,none⟩) (p3.length+1) cg)):=(Bar.refl _ w7).setCell (.inl (by simp)) _
     have Q8:Kept (Aq w (w7.setCell ⟨M,2,none⟩ (.slice (some ⟨gg,0,none⟩) (p3.length+1) cg)) x N R M F F4 #[.int .i64 seen,.slice (some ⟨g,go,none⟩) n c] #[.int .i64 0,.int .i64 0,.slice none 0 0,.slice none 0 0] #[.int .i64 0,.int .i64 0,.slice (some ⟨gg,0,none⟩) (p3.length+1) cg,.slice none 0 0] s4):=⟨Q.out.put MN.out.2.2 (by have:=MN.out;omega) (by have:=MN.out;omega) bM (by simpa using V2)⟩
     have O8:=Kept.mk (O.out.bar bM (fun z hz hm=>(O.out.far z hz).2.2.2 (by rw[List.mem_singleton] at hm;exact hm)))
     rw[← HSN.out.1] at Q8
     rw[← HSN.out.2] at O8
     clear V2 bM Q O
     refine ldU 13 (fun K hK=>?_)
     go_simp
     refine hK.out _ _ (fun h=>absurd rfl h) (fun _=>?_)
     clear hK K m2 f2 hS7
     try simp only[Act.put,zA,zB,zC]
     refine wpAnyU_done (by kernel_rfl) ?_ _
     refine NoPanic.normal ?_
     generalize (w7.setCell ⟨M,2,none⟩ (.slice (some ⟨gg,0,none⟩) (p3.length+1) cg))=w8 at *
     go_wp2
     go_roundw
     case rel=>exact⟨k+1,F4,_,by omega,by omega,by go_num,Q8,O8⟩
     case measure=>simp[Go.RowKit.intOf];omega
    ·have hk1':(k:Int) < n:=by omega
     have hk2':¬ (k:Int) < 64:=by omega
     have HT:Kept (manyL s1 party (l.take k)=manyL s1 party (l.take 64)):=⟨by rw[HTK.out k (by omega) (by omega) (by omega)]⟩
     rw[HT.out] at Q O
     go_wp2
     go_meet
     case rel=>exact⟨F3,ov,Q,O⟩
   ·have hk1':¬ (k:Int) < n:=by omega
    have HT:Kept (manyL s1 party (l.take k)=manyL s1 party (l.take 64)):=⟨by rw[HTK.out k (by omega) (by omega) (by omega)]⟩
    rw[HT.out] at Q O
    go_wp2
    go_meet
    case rel=>exact⟨F3,ov,Q,O⟩
 case rest =>
 clear P2 O2
 obtain⟨F3,ov,Q,O⟩:=hcut
 generalize wc=w9 at *
 obtain⟨r3,hr3⟩:∃ r3,manyL s1 party (l.take 64)=r3:=⟨_,rfl⟩
 have HK3:Kept (Keeps s1 r3.2):=⟨by rw[← hr3];exact(manyL_keeps KK.out.wl KK.out.wi party _ (fun r hr=>HOK.out r (List.mem_of_mem_take hr))).1⟩
 have HRL:Kept (r3.1.length≤64):=⟨by rw[← hr3,manyL_len,List.length_take];omega⟩
 have HAP:Kept (applyL s party clock ⟨seen,l⟩=(⟨r3.2.clock,(r3.2.e.length:Nat),r3.1,fromL r3.2 seen⟩,r3.2)):=⟨by unfold applyL;rw[HS1.out];dsimp only;rw[hr3]⟩
 rw[hr3] at Q O
 clear hr3 HTK
 obtain⟨ps,s3⟩:=r3
 dsimp only at Q O HK3 HRL HAP
 obtain⟨po,hpo⟩:∃ po,ps.length=po:=⟨_,rfl⟩
 obtain⟨Ao,co,hov,hc1,hc2,hpr⟩:=Rc.own pvC_len2 O.out.o rfl
 rw[hpo] at hov hc1 hpr HRL
 subst hov
 have HRP:=Kept.mk hpr
 have HPO:=Kept.mk hpo
 clear hpr hpo
 obtain⟨hxF,x3,f3,Ad,cd,x4,hcd,hcdm,-,-⟩:=Q.out.lk.cells
 have HLN:=Kept.mk HK3.out.wl.len
 have HXF:=Kept.mk hxF;have HX4:Kept (w9.drew.cell? ⟨x,4,none⟩=some (.slice Ad s3.e.length cd)):=⟨x4⟩
 clear hxF
 go_upto_region 8 with(fail)
 clear x3 f3 x4
 go_cut [10] (fun _ wx=>Kept (Aq w wx x N R M F F3 #[.int .i64 seen,.slice A n c] #[.int .i64 0,.int .i64 0,.slice none 0 0,.slice none 0 0] #[.int .i64 s3.clock,.int .i64 (s3.e.length:Nat),.slice Ao po co,.slice none 0 0] s3)∧Kept (Ox w wx N R M F3 (.slice Ao po co) ps)∧Kept (Rp wx Ao po ps))
 case first =>
  have bb:Below w9.heap.size w9 w9.drew:=(Below.refl _ _).drew
  replace Q:=Kept.mk (Q.out.below bb);replace O:=Kept.mk (O.out.bar (barOf bb []) (by simp));replace HRP:=Kept.mk (HRP.out.below bb)
  clear bb
  have CS:Kept (∀ u,Dk u F3 x s3→u.cell? ⟨x,4,none⟩=some (.slice Ad s3.e.length cd)→u.cell? ⟨x,3,none⟩=some (.int .i64 s3.clock)∧u.cell? ⟨x,4,none⟩=some (.slice Ad s3.e.length cd)):=⟨fun u hq h4=>⟨hq.cells.2.1,h4⟩⟩
  have x4:w9.drew.cell? ⟨x,4,none⟩=some (.slice Ad s3.e.length cd):=by
   have:=HX4.out
   exact this
  refine wp_region_noPanic ?_
  refine wp_region_held_drew (S:=fun u:World=>u.cell? ⟨x,3,none⟩=some (.int .i64 s3.clock)∧u.cell? ⟨x,4,none⟩=some (.slice Ad s3.e.length cd)) (by kernel_rfl) (CS.out _ Q.out.lk x4) (fun hS0=>?_)
  generalize w9.drew=w10 at *
  have HS:Kept (∀ u,Bar [M] w10 u→u.cell? ⟨x,3,none⟩=some (.int .i64 s3.clock)∧u.cell? ⟨x,4,none⟩=some (.slice Ad s3.e.length cd)):=⟨fun u hb=>by
   have hx:x∉[M]:=fun hm=>Q.out.mf (by rw[List.mem_singleton] at hm;exact hm▸HXF.out)
   exact⟨by rw[World.cell?_of_block (hb.block x (World.block_lt_of_cell? _ _ hS0.1) hx)];exact hS0.1,by rw[World.cell?_of_block (hb.block x (World.block_lt_of_cell? _ _ hS0.2) hx)];exact hS0.2⟩⟩
  refine tk 0 (by assumption) ?_
  simp only[Act.put,zA,zB,zC]
  refine tk 1 (by assumption) ?_
  simp only[Act.put,zA,zB,zC]
  refine tk 2 (by assumption) ?_
  simp only[Act.put,zA,zB,zC]
  refine tk 3 (by assumption) ?_
  simp only[Act.put,zA,zB,zC]
  refine tk 4 (by assumption) ?_
  simp only[Act.put,zA,zB,zC]
  refine tk 5 (by assumption) ?_
  simp only[Act.put,zA,zB,zC]
  refine tk 6 (by assumption) ?_
  simp only[Act.put,zA,zB,zC]
  refine tk 7 (by assumption) ?_
  simp only[Act.put,zA,zB,zC]
  refine tk 8 (by assumption) ?_
  simp only[Act.put,zA,zB,zC]
  refine tk 9 (by assumption) ?_
  simp only[Act.put,zA,zB,zC]
  clear x4 CS hS0
  have m0:w10.cell? ⟨M,0,none⟩=some (.int .i64 0):=Q.out.V.cell 0;have g0:=Q.out.V.frozen 0;have m1:w10.cell? ⟨M,1,none⟩=some (.int .i64 0):=Q.out.V.cell 1;have g1:=Q.out.V.frozen 1
  have V2:=(Q.out.V.set_ 0 (.int .i64 s3.clock)).set_ 1 (.int .i64 (s3.e.length:Nat))
  have bM0:Bar [M] w10 (w10.setCell ⟨M,0,none⟩ (.int .i64 s3.clock)):=Bar.setCell (Bar.refl [M] w10) (p:=⟨M,0,none⟩) (.inl (by simp)) _
  have bM:Bar [M] w10 ((w10.setCell ⟨M,0,none⟩ (.int .i64 s3.clock)).setCell ⟨M,1,none⟩ (.int .i64 (s3.e.length:Nat))):=Bar.setCell bM0 (p:=⟨M,1,none⟩) (.inl (by simp)) _
  have E:Kept (Aq w ((w10.setCell ⟨M,0,none⟩ (.int .i64 s3.clock)).setCell ⟨M,1,none⟩ (.int .i64 (s3.e.length:Nat))) x N R M F F3 #[.int .i64 seen,.slice A n c] #[.int .i64 0,.int .i64 0,.slice none 0 0,.slice none 0 0] #[.int .i64 s3.clock,.int .i64 (s3.e.length:Nat),.slice Ao po co,.slice none 0 0] s3):=⟨Q.out.put MN.out.2.2 (by have:=MN.out;omega) (by have:=MN.out;omega) bM (by simpa using V2)⟩
  have E2:=Kept.mk (O.out.bar bM (fun z hz hm=>(O.out.far z hz).2.2.2 (by rw[List.mem_singleton] at hm;exact hm)))
  have E3:=Kept.mk (HRP.out.bar bM (fun z hz=>.inr (fun o' ho=>by
   rw[List.mem_singleton] at hz
   subst hz
   exact(O.out.far z (by rw[ho];simp[Value.ownBlock])).2.2.2 rfl)))
  have hSA:=HS.out _ bM0;have hSB:=HS.out _ bM
  clear V2 bM bM0 Q O HRP HS
  refine ld 10 (fun K hK=>?_)
  go_simp
  refine hK.out _ _ hSA (fun _=>?_)
  clear hK K
  refine tk 11 (by assumption) ?_
  simp only[Act.put,zA,zB,zC]
  refine ld 12 (fun K hK=>?_)
  go_simp
  refine hK.out _ _ hSB (fun _=>?_)
  clear hK K m0 g0 m1 g1
  refine wpAnyH_done (by kernel_rfl) ?_ _
  refine NoPanic.normal ?_
  clear hSA hSB
  generalize ((w10.setCell ⟨M,0,none⟩ (.int .i64 s3.clock)).setCell ⟨M,1,none⟩ (.int .i64 (s3.e.length:Nat)))=w11 at *
  go_wp2
  go_meet
  case rel=>exact⟨E,E2,E3⟩
 case rest =>
 clear Q O HRP
 obtain⟨Q,O,HRP⟩:=hcut
 generalize wc=w10 at *
 have x0:=Q.out.X.cell 0
 obtain⟨-,-,-,Ad2,cd2,x4,hcd2,hcdm2,hev,hin⟩:=Q.out.lk.cells
 have HEV:=Kept.mk hev;have HX4B:=Kept.mk x4
 clear hev hin
 go_upto_region 9 with(fail)
 go_cut [72] (fun cz wx=>∃ q:Bool,cz=.bool q∧Kept (q=decide (0≤seen∧seen≤(s3.e.length:Nat)))∧Kept (Below w10.heap.size w10 wx))
 case first =>
  by_cases hs0:0≤seen
  ·by_cases hs1:seen≤(s3.e.length:Nat)
   ·have hq:Kept (true=decide (0≤seen∧seen≤(s3.e.length:Nat))):=⟨(decide_eq_true ⟨hs0,hs1⟩).symm⟩
    go_quiet (fail)
    have BB:=Kept.mk (below_drewN (Below.refl w10.heap.size w10) nq)
    go_wp2
    go_meet
    case rel=>exact⟨_,rfl,hq,BB⟩
   ·have hq:Kept (false=decide (0≤seen∧seen≤(s3.e.length:Nat))):=⟨(decide_eq_false (fun k=>hs1 k.2)).symm⟩
    go_quiet (fail)
    have BB:=Kept.mk (below_drewN (Below.refl w10.heap.size w10) nq)
    go_wp2
    go_meet
    case rel=>exact⟨_,rfl,hq,BB⟩
  ·have hq:Kept (false=decide (0≤seen∧seen≤(s3.e.length:Nat))):=⟨(decide_eq_false (fun k=>hs0 k.1)).symm⟩
   go_quiet (fail)
   have BB:=Kept.mk (below_drewN (Below.refl w10.heap.size w10) nq)
   go_wp2
   go_meet
   case rel=>exact⟨_,rfl,hq,BB⟩
 case rest =>
 clear x0 x4
 obtain⟨q,rfl,HQ,BB⟩:=hcut
 replace Q:=Kept.mk (Q.out.below BB.out);replace O:=Kept.mk (O.out.bar (barOf BB.out []) (by simp));replace HRP:=Kept.mk (HRP.out.below BB.out);replace HEV:=Kept.mk (HEV.out.below BB.out)
 replace HX4B:=Kept.mk (by have h:=HX4B.out;rw[← BB.out.cell (World.block_lt_of_cell? _ _ h)] at h;exact h)
 generalize wc=w11 at *
 clear BB
 go_upto_if 72 with(fail)
 go_cut [72] from 73 to 82 (fun _ wx=>∃ (D:Option Addr) (m d:Nat),m≤d∧d≤9223372036854775807∧Kept (Aq w wx x N R M F F3 #[.int .i64 seen,.slice A n c] #[.int .i64 0,.int .i64 0,.slice none 0 0,.slice none 0 0] #[.int .i64 s3.clock,.int .i64 (s3.e.length:Nat),.slice Ao po co,.slice D m d] s3)∧Kept (Ox w wx N R M F3 (.slice Ao po co) ps)∧Kept (Rp wx Ao po ps)∧Kept (Rv wx D m (fromL s3 seen))∧Kept (∀ b o,D=some ⟨b,o,none⟩→w.heap.size≤b∧b∉F3∧b≠R))
 case first =>
  cases q with
  | false =>
   have hno:=of_decide_eq_false HQ.out.symm
   have HF:Kept (fromL s3 seen=[]):=⟨by unfold fromL;rw[if_neg hno]⟩
   have HNIL:Kept (Rv w11 none 0 (fromL s3 seen)):=⟨by rw[HF.out];exact Rc.nil⟩
   clear hno
   go_wp2
   go_meet
   case rel=>exact⟨none,0,0,by omega,by omega,Q,O,HRP,HNIL,⟨fun b o h=>by cases h⟩⟩
  | true =>
   have hyes:=of_decide_eq_true HQ.out.symm
   obtain⟨sn,rfl⟩:∃ sn:Nat,seen=sn:=⟨seen.toNat,by omega⟩
   have HF:Kept (fromL s3 (sn:Int)=(evs s3).drop sn):=⟨by unfold fromL;rw[if_pos hyes,Int.toNat_natCast]⟩
   have hsn:sn≤s3.e.length:=by omega
   clear hyes HQ
   obtain⟨A',hsl,hdr⟩:=evs_l Ad2 s3.e.length cd2 sn hsn hcd2 (sn:Int) rfl
   have HDR:=Kept.mk hdr
   clear hdr
   have y4:=HX4B.out;have y0:=Q.out.X.cell 0
   have HX4C:Kept (w11.drew.cell? ⟨x,4,none⟩=some (.slice Ad2 s3.e.length cd2)):=⟨y4⟩
   go_upto_region 10 with(fail)
   clear y4 y0
   refine wp_region_noPanic ?_
   have bb:Below w11.heap.size w11 w11.drew:=(Below.refl _ _).drew
   replace Q:=Kept.mk (Q.out.below bb);replace O:=Kept.mk (O.out.bar (barOf bb []) (by simp));replace HRP:=Kept.mk (HRP.out.below bb);replace HEV:=Kept.mk (HEV.out.below bb)
   have hS0:w11.drew.cell? ⟨x,4,none⟩=some (.slice Ad2 s3.e.length cd2)∧w11.drew.cell? ⟨N,0,none⟩=some (.int .i64 (sn:Nat)):=⟨HX4C.out,Q.out.X.cell 0⟩
   refine wp_region_W [10] (S:=fun u:World=>u.cell? ⟨x,4,none⟩=some (.slice Ad2 s3.e.length cd2)∧u.cell? ⟨N,0,none⟩=some (.int .i64 (sn:Nat))) (by kernel_rfl) hS0 (fun hS9=>?_)
   clear bb hS0
   generalize w11.drew=w13 at *
   refine frW 1 (fun _=>by assumption) ?_
   simp only[Act.put,zA,zB,zC]
   refine frW 2 (fun _=>by assumption) ?_
   simp only[Act.put,zA,zB,zC]
   refine frW 3 (fun _=>by assumption) ?_
   simp only[Act.put,zA,zB,zC]
   refine tkW 4 (by assumption) ?_
   simp only[Act.put,zA,zB,zC]
   refine frW 5 (fun _=>by assumption) ?_
   simp only[Act.put,zA,zB,zC]
   refine tkW 6 (by assumption) ?_
   simp only[Act.put,zA,zB,zC]
   refine frW 7 (fun _=>by assumption) ?_
   simp only[Act.put,zA,zB,zC]
   clear hsl
   refine ldW 0 (fun K hK=>?_)
   go_simp
   have b2:Below w13.heap.size w13 (w13.alloc (.cells #[] 71)):=(Below.refl _ _).alloc (Nat.le_refl _) _
   have hown:=World.ownsRow_made (base:=w13.heap.size) (e:=71) (size:=9) w13 #[] 0 (Nat.le_refl _) (by unfold maxLen;omega) rfl
   have HB13:Kept (w.heap.size≤w13.heap.size∧∀ k∈F3,k < w13.heap.size):=⟨Q.out.fp.1.size,Q.out.lt⟩
   have HNRM:Kept (N < w13.heap.size∧R < w13.heap.size∧M < w13.heap.size):=⟨Q.out.X.lt,Q.out.Y.lt,Q.out.V.lt⟩
   have HOB:Kept (∀ g∈(Value.slice Ao po co).ownBlock.toList,g < w13.heap.size):=⟨O.out.lt⟩
   replace Q:=Kept.mk (Q.out.below b2);replace O:=Kept.mk (O.out.bar (barOf b2 []) (by simp));replace HRP:=Kept.mk (HRP.out.below b2);replace HEV:=Kept.mk (HEV.out.below b2)
   have OE:=Kept.mk hown
   have hS6:(w13.alloc (.cells #[] 71)).cell? ⟨x,4,none⟩=some (.slice Ad2 s3.e.length cd2)∧(w13.alloc (.cells #[] 71)).cell? ⟨N,0,none⟩=some (.int .i64 (sn:Nat)):=by
    refine⟨?_,Q.out.X.cell 0⟩
    rw[b2.cell (World.block_lt_of_cell? _ _ hS9.1)];exact hS9.1
   refine hK.out _ _ (fun _=>hS6) (fun _=>?_)
   clear hK K hS9 b2 hown
   try simp only[Act.put,zA,zB,zC]
   generalize (w13.alloc (.cells #[] 71))=w14 at *
   generalize w13.heap.size=gB at *
   have HEL:=HLN.out
   obtain⟨iu,hi,hz0,hz1,hz2⟩:=info_parts info_event9
   refine ldW 8 (fun K hK=>?_)
   refine step_append_rc (by rfl) _ _ _ (by rfl) gB 71 iu (.agg #[.int .i64 0,.int .i64 0,.int .i64 0,.int .i64 0,.int .i64 0,.int .i64 0,.int .i64 0,.string ⟨#[]⟩,.string ⟨#[]⟩]) 88 Tryz.underlying40 hi hz0 hz1 hz2 rfl (by omega) (.slice (some ⟨gB,0,none⟩) 0 0) 0 [] (by rfl) OE.out
    A' (s3.e.length - sn) (cd2 - sn) ((evs s3).drop sn) (by rfl) (HDR.out _ _ HEV.out) vvC_len2 vvC_one (by unfold maxLen;omega) (by omega) (by have:=OE.out.lt gB rfl;omega) ?_
   intro v' w15 hown hgrow hat
   have hlo:∀ g∈v'.ownBlock.toList,gB≤g:=fun g hg=>(hown.lt g (by simpa using hg)).1
   have hbar:Bar [gB] w14 w15:=(Bar.grownRow hgrow).mono (fun z hz=>.inl (by simpa [Value.ownBlock,eq_comm] using hz))
   obtain⟨dl,hdl⟩:∃ dl,((evs s3).drop sn).length=dl:=⟨_,rfl⟩
   obtain⟨D,cc,hv',e1,e2,hrc⟩:=Rc.own vvC_len2 (show w15.ownsRow gB 71 9 v' ((evs s3).drop sn).length (((evs s3).drop sn).flatMap vvC) from by
    have e:((evs s3).drop sn).length=0+(s3.e.length - sn):=by rw[List.length_drop,evs_len,Nat.zero_add]
    rw[e];simpa using hown) rfl
   rw[hdl] at hv' e1 hrc
   have hF3g:gB∉F3:=fun hm=>by have:=HB13.out.2 gB hm;omega
   have hQ15:Aq w w15 x N R M F F3 #[.int .i64 (sn:Nat),.slice A n c] #[.int .i64 0,.int .i64 0,.slice none 0 0,.slice none 0 0] #[.int .i64 s3.clock,.int .i64 (s3.e.length:Nat),.slice Ao po co,.slice none 0 0] s3:=⟨Q.out.lk.keep hbar (fun k hk hm=>hF3g (by rw[List.mem_singleton] at hm;exact hm▸hk)),⟨Q.out.fp.1.trans hbar (fun g hg=>.inr (by rw[List.mem_singleton] at hg;have:=HB13.out.1;omega)),Q.out.fp.2⟩,Q.out.X.bar hbar (by rw[List.mem_singleton];have:=HNRM.out;omega),Q.out.Y.bar hbar (by rw[List.mem_singleton];have:=HNRM.out;omega),Q.out.V.bar hbar (by rw[List.mem_singleton];have:=HNRM.out;omega),Q.out.nf,Q.out.rf,Q.out.mf⟩
   have hO15:=O.out.bar hbar (fun z hz hm=>by rw[List.mem_singleton] at hm;have:=HOB.out z hz;omega)
   have hP15:=HRP.out.bar hbar (fun z hz=>.inr (fun o' ho=>by
    rw[List.mem_singleton] at hz
    subst hz
    have:=HOB.out z (by rw[ho];simp[Value.ownBlock])
    omega))
   have hS15:w15.cell? ⟨x,4,none⟩=some (.slice Ad2 s3.e.length cd2)∧w15.cell? ⟨N,0,none⟩=some (.int .i64 (sn:Nat)):=by
    refine⟨?_,hQ15.X.cell 0⟩
    have h1:=hS6.1
    have hx:x < gB:=HB13.out.2 x HXF.out
    rw[World.cell?_of_block (hbar.block x (World.block_lt_of_cell? _ _ h1) (by rw[List.mem_singleton];omega))];exact h1
   refine hK.out _ _ (fun _=>hS15) (fun _=>?_)
   replace Q:=Kept.mk hQ15;replace O:=Kept.mk hO15;replace HRP:=Kept.mk hP15
   have HDB:Kept (∀ b o,D=some ⟨b,o,none⟩→gB≤b):=⟨fun b o hh=>by subst hh;exact hlo b (by rw[hv'];simp[Value.ownBlock])⟩
   have HRV:=Kept.mk hrc
   clear hK K hS6 hdl hown hgrow hat hi hz0 hz1 hz2 iu OE hQ15 hO15 hP15 hlo hbar hrc HEV HDR
   subst hv'
   try simp only[Act.put,zA,zB,zC]
   refine frW 9 (fun _=>by assumption) ?_
   simp only[Act.put,zA,zB,zC]
   clear hS15
   have m3:w15.cell? ⟨M,3,none⟩=some (.slice none 0 0):=Q.out.V.cell 3
   have f3:=Q.out.V.frozen 3
   have V2:=Q.out.V.set_ 3 (.slice D dl cc)
   have bM:Bar [M] w15 (w15.setCell ⟨M,3,none⟩ (.slice D dl cc)):=(Bar.refl _ w15).setCell (.inl (by simp)) _
   have E1:Kept (Aq w (w15.setCell ⟨M,3,none⟩ (.slice D dl cc)) x N R M F F3 #[.int .i64 (sn:Nat),.slice A n c] #[.int .i64 0,.int .i64 0,.slice none 0 0,.slice none 0 0] #[.int .i64 s3.clock,.int .i64 (s3.e.length:Nat),.slice Ao po co,.slice D dl cc] s3):=⟨Q.out.put MN.out.2.2 (by have:=MN.out;omega) (by have:=MN.out;omega) bM (by simpa using V2)⟩
   have E2:=Kept.mk (O.out.bar bM (fun z hz hm=>(O.out.far z hz).2.2.2 (by rw[List.mem_singleton] at hm;exact hm)))
   have E3:=Kept.mk (HRP.out.bar bM (fun z hz=>.inr (fun o' ho=>by
    rw[List.mem_singleton] at hz
    subst hz
    exact(O.out.far z (by rw[ho];simp[Value.ownBlock])).2.2.2 rfl)))
   have E4:Kept (Rv (w15.setCell ⟨M,3,none⟩ (.slice D dl cc)) D dl (fromL s3 (sn:Int))):=⟨by
    rw[HF.out]
    exact HRV.out.bar bM (fun z hz=>.inr (fun o' ho=>by
     rw[List.mem_singleton] at hz
     subst hz
     have:=HDB.out z o' ho
     have:=HNRM.out
     omega))⟩
   have E5:Kept (∀ b o,D=some ⟨b,o,none⟩→w.heap.size≤b∧b∉F3∧b≠R):=⟨fun b o hh=>by
    have h1:=HDB.out b o hh
    have h2:=HB13.out;have h3:=HNRM.out
    exact⟨by omega,fun hm=>by have:=h2.2 b hm;omega,by omega⟩⟩
   clear V2 bM Q O HRP HRV
   refine ldW 10 (fun K hK=>?_)
   go_simp
   refine hK.out _ _ (late_come (by kernel_rfl)) (fun _=>?_)
   clear hK K m3 f3
   try simp only[Act.put,zA,zB,zC]
   refine wpAnyW_done (by kernel_rfl) ?_ _
   refine NoPanic.normal ?_
   generalize (w15.setCell ⟨M,3,none⟩ (.slice D dl cc))=w16 at *
   go_wp2
   go_meet
   case rel=>exact⟨D,_,cc,e1,e2,E1,E2,E3,E4,E5⟩
 case rest =>
 clear Q O HRP
 obtain⟨D,m,d,hd1,hd2,Q,O,HRP,HRV,HD⟩:=hcut
 generalize wc=w12 at *
 have m0:=Q.out.V.cell 0;have m1:=Q.out.V.cell 1;have m2:=Q.out.V.cell 2;have m3:=Q.out.V.cell 3
 have y0:=Q.out.Y.cell 0;have z0:=Q.out.Y.frozen 0;have y1:=Q.out.Y.cell 1;have z1:=Q.out.Y.frozen 1;have y2:=Q.out.Y.cell 2;have z2:=Q.out.Y.frozen 2;have y3:=Q.out.Y.cell 3;have z3:=Q.out.Y.frozen 3
 have PP:=Kept.mk (put4 Q.out.Y (.int .i64 s3.clock) (.int .i64 (s3.e.length:Nat)) (.slice Ao po co) (.slice D m d))
 have L5:=Kept.mk (dput Q.out.lk PP.out.2 Q.out.rf)
 have F5:=Kept.mk (dfp Q.out.fp PP.out.2 NR.out.2.1)
 have RZ:=Kept.mk (HRP.out.bar PP.out.2 (fun z hz=>.inr (fun o' ho=>by
  rw[List.mem_singleton] at hz
  subst hz
  exact(O.out.far z (by rw[ho];simp[Value.ownBlock])).2.2.1 rfl)))
 have RV2:=Kept.mk (HRV.out.bar PP.out.2 (fun z hz=>.inr (fun o' ho=>by
  rw[List.mem_singleton] at hz
  exact(HD.out z o' ho).2.2 hz)))
 go_wp2
 (try simp only[Exit.inBlock,Exit.then])
 refine bodyPost_ret (results_cell_row rfl _ _ R 59 #[.int .i64 s3.clock,.int .i64 (s3.e.length:Nat),.slice Ao po co,.slice D m d] (0,0) _ rfl PP.out.1 Tryz.underlying59 rfl answer_size2) rfl ?_
 rw[HAP.out]
 refine⟨F3,Ao,po,co,D,m,d,rfl,hc1,hc2,hd1,hd2,RZ.out,RV2.out,fun b' o' hh=>?_,fun b' o' hh=>⟨(HD.out b' o' hh).1,(HD.out b' o' hh).2.1⟩,L5.out,F5.out⟩
 subst hh
 exact⟨O.out.lo b' (by simp[Value.ownBlock]),(O.out.far b' (by simp[Value.ownBlock])).1⟩
end
theorem getV_left6 (st:St):(getV st).2.2.length≤st.2.length:=by
 have hn:=fun (t:St) (s:Int)=>decNum_left t s
 have hw:=fun (t:St)=>rawD_len t 32
 unfold getV
 simp only
 have g1:∀ (p:Prop) [Decidable p] (t:St) (s:Int),(if p then decNum t s else (0,t)).2.2.length≤t.2.length:=fun p _ t s=>by
  split
  ·exact hn t s
  ·exact Nat.le_refl _
 have g2:∀ (p:Prop) [Decidable p] (t:St),(if p then rawD t 32 else ([],t)).2.2.length≤t.2.length:=fun p _ t=>by
  split
  ·exact hw t
  ·exact Nat.le_refl _
 exact Nat.le_trans (g2 _ _) (Nat.le_trans (g1 _ _ _) (Nat.le_trans (g2 _ _) (Nat.le_trans (g1 _ _ _) (Nat.le_trans (g1 _ _ _) (Nat.le_trans (g1 _ _ _) (Nat.le_trans (g1 _ _ _) (Nat.le_trans (g1 _ _ _) (hn st 1))))))))
theorem decNum_size26 (st:St) (hb:Bytes st.2):0≤(decNum st 2).1∧(decNum st 2).1≤65535:=by
 unfold decNum
 split
 ·split
  ·split
   ·rename_i h
    have h1:=val_take_lt st.2 hb 2 (by have:=h.1;simpa using this)
    constructor
    ·exact Int.natCast_nonneg _
    ·have e:(Int.toNat 2)=2:=rfl
     simp only[e];omega
   ·simp
  ·simp
 ·simp
def RLoadPost (w:World) (n:Nat) (X:Nat→List Int) (cap:Int) (b:List Int) (e:Ending) (w':World):Prop :=
 Below w.heap.size w w'∧((¬ confOk n X cap∧e=.returned (.tuple #[.pointer none,.int .i64 1])) ∨
  (confOk n X cap∧e=.returned (.tuple #[.pointer none,.int .i64 2])∧∀ s,Reach (newL n X cap) s→saveL s≠b) ∨
  (confOk n X cap∧∃ s x F,e=.returned (.tuple #[.pointer (some ⟨x,0,none⟩),.int .i64 0])∧Reach (newL n X cap) s∧saveL s=b∧Dk w' F x s∧∀ k∈F,w.heap.size≤k))
def whoE (st:St):Int × St:=decNum st 1
def whenE (st:St):Int × St:=decNum (whoE st).2 8
def eveE (st:St):VV × St:=getV (whenE st).2
def doE (s:LS) (st:St):LS:=(applyL s (whoE st).1 (whenE st).1 ⟨0,[reqOf (eveE st).1]⟩).2
theorem doE_is (s:LS) (st:St):doE s st=(oneL (clockL s (whenE st).1) (whoE st).1 (reqOf (eveE st).1)).2:=rfl
theorem dgone_step {s0:LS}(w:WL s0) (wi:WI s0) (h0:s0.e=[]) {b:List Int}{k:Nat}{s:LS}{st:St}(g:Gone s0 b k s st):∀ s',Reach s0 s'→saveL s'=b→k < s'.e.length →
  (eveE st).2.1=0∧MayV (eveE st).1∧s.clock≤(whenE st).1∧(doE s st).e.length=k+1∧((doE s st).e[k]?).map (·.v)=some (eveE st).1∧doE s st=preE s0 (s'.e.take (k+1))∧(eveE st).2=(0,(s'.e.drop (k+1)).flatMap putLE):=by
 intro s' hr hs hk
 obtain⟨-,h1,h2⟩:=g s' hr hs
 have W:=(hr.keeps w wi).wl
 have H:=hr.hist w wi h0
 have hx:s'.e[k]∈s'.e:=List.getElem_mem hk
 have he:=W.each _ hx
 have hge:s'.e[k]?=some s'.e[k]:=List.getElem?_eq_getElem hk
 have hwn:=H.when_ k _ hge
 rw[drop_cons hk,List.flatMap_cons] at h2
 obtain⟨x,hxe⟩:∃ x,s'.e[k]=x:=⟨_,rfl⟩
 rw[hxe] at h2 hx he hwn hge
 have hw:=W.who hx
 have e1:whoE st=(x.who,(0,be x.at_.toNat 8++(putV x.v++(s'.e.drop (k+1)).flatMap putLE))):=by
  unfold whoE;rw[h2];unfold putLE
  rw[List.append_assoc,List.append_assoc]
  exact nb1 _ hw
 have e2:whenE st=(x.at_,(0,putV x.v++(s'.e.drop (k+1)).flatMap putLE)):=by
  unfold whenE;rw[e1];exact nb8 _ he.2.2.2.amt
 have e3:eveE st=(x.v,(0,(s'.e.drop (k+1)).flatMap putLE)):=by
  unfold eveE;rw[e2];exact getV_back he.1 _
 have e4:doE s st=preE s0 (s'.e.take (k+1)):=by
  rw[doE_is,e1,e2,e3,List.take_succ_eq_append_getElem hk,preE_snoc,hxe,← h1];rfl
 have e5:=H.each (k+1) (by omega)
 rw[e4,e3,e2,e5]
 refine⟨rfl,he.1,by rw[h1];exact hwn,by rw[List.length_take];omega,?_,rfl,rfl⟩
 rw[List.getElem?_take,if_pos (by omega),hge]
 rfl
theorem n0_len {s0 s':LS}(w:WL s0) (wi:WI s0) {b:List Int}(hr:Reach s0 s') (hs:saveL s'=b):(n0 b).1=(s'.e.length:Nat):=by
 subst hs
 rw[(save_head (hr.keeps w wi).wl).2]
section
variable {w : World} {D : Option Addr} {m d n c : Nat} {A : Option Addr} {X : Nat → List Int} {b : List Int}
structure Lo (w wr:World) (N M:Nat) (G F:List Nat) (x k:Nat) (s0 s:LS) (b:List Int) (st:St):Prop where
 l:Dk wr F x s
 new:∀ g∈F,w.heap.size≤g∧g≠M
 de:De 94 wr M G st
 lg:∀ g∈G,g < w.heap.size
 mw:w.heap.size≤M
 bl:Below w.heap.size w wr
 r:Reach s0 s
 g:Gone s0 b k s st
section
variable {wr wr' : World} {N M x k : Nat} {G F F' : List Nat} {s0 s s' : LS} {st st' : St}
theorem Lo.below (h:Lo w wr N M G F x k s0 s b st) (bb:Below wr.heap.size wr wr'):Lo w wr' N M G F x k s0 s b st :=
 ⟨h.l.below bb,h.new,h.de.below bb,h.lg,h.mw,h.bl.trans (bb.mono h.bl.size),h.r,h.g⟩
theorem Lo.mg (h:Lo w wr N M G F x k s0 s b st):M∉G:=fun hm=>by have:=h.lg M hm;have:=h.mw;omega
structure Lr (w wr:World) (N M:Nat) (G F:List Nat) (x:Nat) (s:LS) (st:St):Prop where
 l:Dk wr F x s
 new:∀ g∈F,w.heap.size≤g∧g≠M
 de:De 94 wr M G st
 lg:∀ g∈G,g < w.heap.size
 mw:w.heap.size≤M
 bl:Below w.heap.size w wr
theorem Lo.lr (h:Lo w wr N M G F x k s0 s b st):Lr w wr N M G F x s st:=⟨h.l,h.new,h.de,h.lg,h.mw,h.bl⟩
theorem Lr.mg (h:Lr w wr N M G F x s st):M∉G:=fun hm=>by have:=h.lg M hm;have:=h.mw;omega
theorem Lr.below (h:Lr w wr N M G F x s st) (bb:Below wr.heap.size wr wr'):Lr w wr' N M G F x s st :=
 ⟨h.l.below bb,h.new,h.de.below bb,h.lg,h.mw,h.bl.trans (bb.mono h.bl.size)⟩
theorem Lr.rd (h:Lr w wr N M G F x s st) (bb:Bar [M] wr wr') (de:De 94 wr' M G st'):Lr w wr' N M G F x s st' :=
 ⟨h.l.keep bb (fun g hg hm=>(h.new g hg).2 (by rw[List.mem_singleton] at hm;exact hm)),h.new,de,h.lg,h.mw,h.bl.trans (bb.below (B:=w.heap.size) h.bl.size (fun g hg=>by rw[List.mem_singleton] at hg;subst hg;exact h.mw))⟩
theorem Lr.led (h:Lr w wr N M G F x s st) (hk:Dk wr' F' x s') (fp:Fp F F' wr wr'):Lr w wr' N M G F' x s' st :=
 ⟨hk,fun g hg=>by
  rcases fp.2 g hg with e|e
  ·exact h.new g e
  ·have:=h.bl.size;have:=h.de.lt;exact⟨by omega,by omega⟩,h.de.keep fp.1 (fun hm=>(h.new M hm).2 rfl) (fun g hg hm=>by have:=h.lg g hg;have:=(h.new g hm).1;omega),h.lg,h.mw,h.bl.trans (fp.below (fun g hg=>(h.new g hg).1) h.bl.size)⟩
theorem Lr.blk_led {B:Nat}{T:TypeId}{cs:Array Value}(hb:Blk wr B T cs) (hB:B∉F) (fp:Fp F F' wr wr'):Blk wr' B T cs∧B∉F':=⟨hb.bar fp.1 hB,fun hm=>by
 rcases fp.2 B hm with e|e
 ·exact hB e
 ·have:=hb.lt;omega⟩
end
set_option maxRecDepth 100000 in
set_option maxHeartbeats 8000000 in
theorem rload_any (cap:Int) (hr:Rwi w A n X) (hb:Rd w D m b) (hm:m≤100000) (hd:m≤d) (hdm:d≤9223372036854775807) :
  Calls Tryz.prog 9 #[.agg #[.slice A n c,.int .i64 cap],.slice D m d] w (RLoadPost w n X cap b):=by
 obtain⟨N,hN⟩:∃ N,w.heap.size=N:=⟨_,rfl⟩
 have b0:Below w.heap.size w (w.alloc (.cells #[.slice A n c,.int .i64 cap] 24)):=(Below.refl _ _).alloc (Nat.le_refl _) _
 have X1:Kept (Blk (w.alloc (.cells #[.slice A n c,.int .i64 cap] 24)) N 24 #[.slice A n c,.int .i64 cap]):=⟨Blk.new_at w _ _ N hN.symm⟩
 have KN:=Kept.mk (rnewl_any (c:=c) cap (hr.below b0))
 unfold NewDPost at KN
 obtain⟨G,hG,hGo⟩:=arg_block hb
 have HG:=Kept.mk hG;have HGO:=Kept.mk hGo;have HB:=Kept.mk hb;have HBL:=Kept.mk hb.1
 have B:=Kept.mk b0
 clear hr b0 hG hGo hb
 go_enter Tryz.func9,Tryz.ntmps9
 go_upto_region 1 with(fail)
 generalize w.alloc (.cells #[.slice A n c,.int .i64 cap] 24)=w1 at *
 clear hN
 have x0:=X1.out.cell 0;have x1:=X1.out.cell 1
 go_wp2_with fail
 refine KN.out.mono ?_
 rintro e w2 (⟨hno,rfl,bb⟩|⟨hok,x,F,rfl,hl,bb,hF⟩)
 ·replace B:=Kept.mk (B.out.trans (bb.mono B.out.size))
  have HNO:=Kept.mk hno
  clear KN bb hno x0 x1 X1
  go_wp2
  go_ret2
  exact⟨B.out,.inl ⟨HNO.out,rfl⟩⟩
 have HOK:=Kept.mk hok;have HL:=Kept.mk hl
 have HF:=Kept.mk (fun g hg=>Nat.le_trans B.out.size (hF g hg))
 replace B:=Kept.mk (B.out.trans (bb.mono B.out.size))
 clear KN bb hok hl hF x0 x1 X1
 obtain⟨s0,hs0⟩:∃ s0,newL n X cap=s0:=⟨_,rfl⟩
 have WL0:Kept (WL s0):=⟨hs0▸newL_wl HOK.out⟩
 have WI0:Kept (WI s0):=⟨hs0▸newL_wi n X cap⟩
 have HE0:Kept (s0.e=[]):=⟨hs0▸newL_e n X cap⟩
 rw[hs0] at HL
 have HS0:=Kept.mk hs0
 clear hs0
 obtain⟨M,hM⟩:∃ M,w2.heap.size=M:=⟨_,rfl⟩
 have bb:Below w2.heap.size w2 (w2.alloc (.cells #[.slice D m d,.int .i64 0] 94)):=(Below.refl _ _).alloc (Nat.le_refl _) _
 have S:Kept (Lr w (w2.alloc (.cells #[.slice D m d,.int .i64 0] 94)) N M G F x s0 (0,b)):=⟨⟨HL.out.below bb,fun g hg=>⟨HF.out g hg,by have:=HL.out.lts g hg;omega⟩,by
  refine⟨fun k hk=>Nat.lt_of_lt_of_le (HG.out k hk) (Nat.le_trans B.out.size bb.size),D,d,?_,?_,?_,hdm,?_⟩
  ·dsimp only;rw[HBL.out];exact Blk.new_at _ _ _ M hM.symm
  ·dsimp only;rw[HBL.out];exact HB.out.below (B.out.trans (bb.mono B.out.size))
  ·dsimp only;rw[HBL.out];exact hd
  ·dsimp only;rw[HBL.out];exact HGO.out,HG.out,by have:=B.out.size;omega,B.out.trans (bb.mono B.out.size)⟩⟩
 clear bb B HL HF HG
 go_upto_region 5 with(fail)
 generalize (w2.alloc (.cells #[.slice D m d,.int .i64 0] 94))=w3 at *
 clear hM
 have HLEN:Kept ((b:List Int).length≤100000):=⟨by rw[HBL.out];exact hm⟩
 have KC:=rdnum_any w3 M G 8 (0,b) S.out.de S.out.mg
 obtain⟨c1,hc1⟩:∃ q,decNum (0,b) 8=q:=⟨_,rfl⟩
 have hl1:=decNum_left (0,b) 8
 rw[hc1] at KC hl1
 have HC1:=Kept.mk hc1
 clear hc1
 go_wp2_with fail
 refine KC.mono ?_
 rintro x' w4 ⟨rfl,he,bb⟩
 replace S:=Kept.mk (S.out.rd bb he)
 clear he bb KC
 have KC:=rdnum_any w4 M G 2 c1.2 S.out.de S.out.mg
 have hsz:=decNum_size26 c1.2 S.out.de.bytes
 obtain⟨c2,hc2⟩:∃ q,decNum c1.2 2=q:=⟨_,rfl⟩
 have hl2:=decNum_left c1.2 2
 rw[hc2] at KC hsz hl2
 have HN0:Kept (n0 b=c2):=⟨by unfold n0 cl0;rw[HC1.out];exact hc2⟩
 have HCL:Kept (cl0 b=c1):=⟨HC1.out⟩
 have HL2:Kept (c2.2.2.length≤100000):=⟨Nat.le_trans hl2 (Nat.le_trans hl1 HLEN.out)⟩
 clear hc2 hl1 hl2 HC1
 go_wp2_with fail
 refine KC.mono ?_
 rintro x' w5 ⟨rfl,he,bb⟩
 replace S:=Kept.mk (S.out.rd bb he)
 clear he bb KC
 obtain⟨cv,cst⟩:=c1
 obtain⟨nv,nst⟩:=c2
 dsimp only at hsz S HL2
 obtain⟨nn,rfl⟩:∃ nn:Nat,nv=nn:=⟨nv.toNat,by omega⟩
 have hnn:nn≤65535:=by omega
 have S0:Kept (Lo w w5 N M G F x 0 s0 s0 b nst):=⟨⟨S.out.l,S.out.new,S.out.de,S.out.lg,S.out.mw,S.out.bl,Reach.start,by have:=gone_start WL0.out WI0.out b;rw[HN0.out] at this;exact this⟩⟩
 have HGL:Kept (∀ k' s' st',Lo w w5 N M G F x k' s0 s' b st'→True):=⟨fun _ _ _ _=>trivial⟩
 clear S hsz HGL
 go_upto_block 0 with(fail)
 go_cut [11] from 33 to 115 (fun _ wx=>∃ (k:Nat) (F:List Nat) (s:LS) (st:St),Kept (Lo w wx N M G F x k s0 s b st)∧Kept (∀ s',Reach s0 s'→saveL s'=b→st=(0,[])∧clockL s cv=s'))
 case first =>
  go_wp2
  go_loopw [11] (fun i wr=>∃ (k:Nat) (F:List Nat) (s:LS) (st:St),k≤nn∧i=.int .i64 k∧st.2.length≤100000∧Kept (Lo w wr N M G F x k s0 s b st)) (fun i _=>nn - (Go.RowKit.intOf i).toNat)
  case atStart=>exact⟨0,F,s0,nst,by omega,rfl,HL2.out,S0⟩
  case round =>
   clear S0
   obtain⟨k,F,s,st,hk,rfl,hst,S⟩:=hrel
   have HST:=Kept.mk hst
   obtain⟨err,ys⟩:=st
   obtain⟨Ad,cd,d1⟩:∃ Ad cd,wr.cell? ⟨M,1,none⟩=some (.int .i64 err)∧wr.cell? ⟨M,0,none⟩=some (.slice Ad ys.length cd):=by
    obtain⟨-,Ad,cd,hb,-⟩:=S.out.de
    exact⟨Ad,cd,hb.cell 1,hb.cell 0⟩
   replace d1:=d1.1
   have HGS:=Kept.mk (dgone_step WL0.out WI0.out HE0.out S.out.g)
   have HNL:=Kept.mk (fun s' (hr:Reach s0 s') (hs:saveL s'=b)=>by have:=n0_len WL0.out WI0.out hr hs;rw[HN0.out] at this;exact this)
   by_cases hkn:k < nn
   ·have hkn':(k:Int) < nn:=by omega
    by_cases he0:err=0
    ·subst he0
     have KC:=rdnum_any wr M G 1 (0,ys) S.out.de S.out.mg
     have hl1:=decNum_left (0,ys) 1
     obtain⟨q1,hq1⟩:∃ q,decNum (0,ys) 1=q:=⟨_,rfl⟩
     have HQ1:Kept (whoE (0,ys)=q1):=⟨hq1⟩
     rw[hq1] at KC hl1
     clear hq1
     have SR:=Kept.mk S.out.lr
     have HGONE:=Kept.mk S.out.g;have HREACH:=Kept.mk S.out.r
     clear S
     go_wp2_with fail
     refine KC.mono ?_
     rintro x' w6 ⟨rfl,he,bb⟩
     replace SR:=Kept.mk (SR.out.rd bb he)
     clear he bb KC d1
     have KC:=rdnum_any w6 M G 8 q1.2 SR.out.de SR.out.mg
     have hl2:=decNum_left q1.2 8
     obtain⟨q2,hq2⟩:∃ q,decNum q1.2 8=q:=⟨_,rfl⟩
     have HQ2:Kept (whenE (0,ys)=q2):=⟨by unfold whenE;rw[HQ1.out];exact hq2⟩
     rw[hq2] at KC hl2
     clear hq2
     go_wp2_with fail
     refine KC.mono ?_
     rintro x' w7 ⟨rfl,he,bb⟩
     replace SR:=Kept.mk (SR.out.rd bb he)
     clear he bb KC
     have KC:=rgetv_any SR.out.de SR.out.mg (by have h1:=HST.out;(try dsimp only at h1 hl1);omega)
     have hl3:=getV_left6 q2.2
     obtain⟨q3,hq3⟩:∃ q,getV q2.2=q:=⟨_,rfl⟩
     have HQ3:Kept (eveE (0,ys)=q3):=⟨by unfold eveE;rw[HQ2.out];exact hq3⟩
     unfold getVPost at KC
     rw[hq3] at KC hl3
     have HST3:Kept (q3.2.2.length≤100000):=⟨by have h1:=HST.out;(try dsimp only at h1 hl1);omega⟩
     clear hq3 hl1 hl2 hl3
     obtain⟨who,st1⟩:=q1
     obtain⟨at_,st2⟩:=q2
     obtain⟨⟨kind,src,dst,asset,amount,id,due,hash,sec⟩,e3,st3⟩:=q3
     unfold vqv at KC
     dsimp only at KC SR HST3
     have KC2:=Kept.mk KC
     clear KC
     go_wp2_with fail
     refine KC2.out.mono ?_
     rintro x' w8 ⟨rfl,hvok,he,bb⟩
     replace SR:=Kept.mk (SR.out.rd bb he)
     have HVOK:=Kept.mk hvok
     clear he bb KC2 hvok
     obtain⟨V,hV⟩:∃ V,w8.heap.size=V:=⟨_,rfl⟩
     have bb:Below w8.heap.size w8 (w8.alloc (.cells #[.int .i64 kind,.int .i64 src,.int .i64 dst,.int .i64 asset,.int .i64 amount,.int .i64 id,.int .i64 due,.string (strOfNums hash),.string (strOfNums sec)] 71)):=(Below.refl _ _).alloc (Nat.le_refl _) _
     have XV:Kept (Blk (w8.alloc (.cells #[.int .i64 kind,.int .i64 src,.int .i64 dst,.int .i64 asset,.int .i64 amount,.int .i64 id,.int .i64 due,.string (strOfNums hash),.string (strOfNums sec)] 71)) V 71 #[.int .i64 kind,.int .i64 src,.int .i64 dst,.int .i64 asset,.int .i64 amount,.int .i64 id,.int .i64 due,.string (strOfNums hash),.string (strOfNums sec)]):=⟨Blk.new_at w8 _ _ V hV.symm⟩
     have VF:Kept (V∉F∧w.heap.size≤V):=⟨fun hm=>by have:=SR.out.l.lts V hm;omega,by have:=SR.out.bl.size;omega⟩
     replace SR:=Kept.mk (SR.out.below bb)
     clear bb
     go_upto_region 12 with(fail)
     generalize (w8.alloc (.cells #[.int .i64 kind,.int .i64 src,.int .i64 dst,.int .i64 asset,.int .i64 amount,.int .i64 id,.int .i64 due,.string (strOfNums hash),.string (strOfNums sec)] 71))=w9 at *
     clear hV
     obtain⟨Ad,cd,d1⟩:∃ Ad cd,w9.cell? ⟨M,1,none⟩=some (.int .i64 e3)∧w9.cell? ⟨M,0,none⟩=some (.slice Ad st3.length cd):=by
      obtain⟨-,Ad,cd,hb,-⟩:=SR.out.de
      exact⟨Ad,cd,hb.cell 1,hb.cell 0⟩
     replace d1:=d1.1
     have KM:=rmayv_any ⟨kind,src,dst,asset,amount,id,due,hash,sec⟩ HVOK.out w9
     obtain⟨qm,hqm⟩:∃ qm,decide (MayV ⟨kind,src,dst,asset,amount,id,due,hash,sec⟩)=qm:=⟨_,rfl⟩
     rw[hqm] at KM
     unfold vqv at KM
     dsimp only at KM
     have KM2:=Kept.mk KM;have HQM:=Kept.mk hqm
     clear KM hqm
     by_cases he3:e3=0
     ·subst he3
      have v0:=XV.out.cell 0;have v1:=XV.out.cell 1;have v2:=XV.out.cell 2;have v3:=XV.out.cell 3;have v4:=XV.out.cell 4;have v5:=XV.out.cell 5;have v6:=XV.out.cell 6;have v7:=XV.out.cell 7;have v8:=XV.out.cell 8
      go_wp2_with fail
      refine KM2.out.mono ?_
      rintro e' w10 ⟨rfl,bb⟩
      replace SR:=Kept.mk (SR.out.below bb);replace XV:=Kept.mk (XV.out.below bb XV.out.lt)
      clear KM2 bb d1 v0 v1 v2 v3 v4 v5 v6 v7 v8
      cases qm with
      | false =>
       as_aux_lemma =>
       have HM:=Kept.mk (of_decide_eq_false HQM.out)
       have hno:Kept (∀ s',Reach s0 s'→saveL s'≠b):=⟨fun s' hr hs=>by
        have h1:=HGS.out s' hr hs (by have:=HNL.out s' hr hs;omega)
        rw[HQ3.out] at h1
        exact HM.out h1.2.1⟩
       have B:=Kept.mk SR.out.bl
       go_wp2
       go_ret2
       exact⟨B.out,.inr (.inl ⟨HOK.out,rfl,fun s' hr=>hno.out s' (by rw[HS0.out] at hr;exact hr)⟩)⟩
      | true =>
       have HM:=Kept.mk (of_decide_eq_true HQM.out)
       obtain⟨A4,c4,x4,x3⟩:=SR.out.l.len
       by_cases hat:at_ < s.clock
       ·as_aux_lemma =>
        have hno:Kept (∀ s',Reach s0 s'→saveL s'≠b):=⟨fun s' hr hs=>by
         have h1:=HGS.out s' hr hs (by have:=HNL.out s' hr hs;omega)
         rw[HQ3.out,HQ2.out] at h1
         have:=h1.2.2.1
         dsimp only at this
         omega⟩
        have B:=Kept.mk SR.out.bl
        go_wp2
        go_ret2
        exact⟨B.out,.inr (.inl ⟨HOK.out,rfl,fun s' hr=>hno.out s' (by rw[HS0.out] at hr;exact hr)⟩)⟩
       ·have hat':(at_ < s.clock)=False:=eq_false hat
        have v0:=XV.out.cell 0;have v1:=XV.out.cell 1;have v2:=XV.out.cell 2;have v3:=XV.out.cell 3;have v4:=XV.out.cell 4;have v5:=XV.out.cell 5;have v6:=XV.out.cell 6;have v7:=XV.out.cell 7;have v8:=XV.out.cell 8
        obtain⟨R,hR⟩:∃ R,w10.heap.size=R:=⟨_,rfl⟩
        have bb:Below w10.heap.size w10 (w10.alloc (.cells #[.int .i64 kind,.int .i64 dst,.int .i64 asset,.int .i64 amount,.int .i64 id,.int .i64 due,.string (strOfNums hash),.string (strOfNums sec)] 65)):=(Below.refl _ _).alloc (Nat.le_refl _) _
        have XR:Kept (Blk (w10.alloc (.cells #[.int .i64 kind,.int .i64 dst,.int .i64 asset,.int .i64 amount,.int .i64 id,.int .i64 due,.string (strOfNums hash),.string (strOfNums sec)] 65)) R 65 #[.int .i64 kind,.int .i64 dst,.int .i64 asset,.int .i64 amount,.int .i64 id,.int .i64 due,.string (strOfNums hash),.string (strOfNums sec)]):=⟨Blk.new_at w10 _ _ R hR.symm⟩
        have RF:Kept (R∉F∧w.heap.size≤R∧V≠R∧R≠M):=⟨fun hm=>by have:=SR.out.l.lts R hm;omega,by have:=SR.out.bl.size;omega,by have:=XV.out.lt;omega,by have:=SR.out.de.lt;omega⟩
        replace SR:=Kept.mk (SR.out.below bb);replace XV:=Kept.mk (XV.out.below bb XV.out.lt)
        clear bb
        go_upto_region 15 with(fail)
        generalize (w10.alloc (.cells #[.int .i64 kind,.int .i64 dst,.int .i64 asset,.int .i64 amount,.int .i64 id,.int .i64 due,.string (strOfNums hash),.string (strOfNums sec)] 65))=w11 at *
        clear hR v0 v1 v2 v3 v4 v5 v6 v7 v8 x4 x3 hat'
        obtain⟨rid,hrid⟩:∃ rid,(if kind=2 then 0 else id)=rid:=⟨_,rfl⟩
        have HRID:=Kept.mk hrid
        clear hrid
        have v0:=XV.out.cell 0
        go_upto_if 88 with(fail)
        go_cut [88] from 89 to 89 (fun _ wx=>Kept (Lr w wx N M G F x s (0,st3))∧Kept (Blk wx V 71 #[.int .i64 kind,.int .i64 src,.int .i64 dst,.int .i64 asset,.int .i64 amount,.int .i64 id,.int .i64 due,.string (strOfNums hash),.string (strOfNums sec)])∧Kept (Blk wx R 65 #[.int .i64 kind,.int .i64 dst,.int .i64 asset,.int .i64 amount,.int .i64 rid,.int .i64 due,.string (strOfNums hash),.string (strOfNums sec)]))
        case first =>
         by_cases hk2:kind=2
         ·have hk2':(kind == 2)=true:=by rw[hk2];rfl
          have hr0:rid=0:=by rw[← HRID.out,if_pos hk2]
          subst hr0
          have r4:=XR.out.cell 4;have f4:=XR.out.frozen 4
          have hX2:=XR.out.set_ 4 (.int .i64 0)
          have bR:Bar [R] w11 (w11.setCell ⟨R,4,none⟩ (.int .i64 0)):=(Bar.refl _ w11).setCell (.inl (by simp)) _
          have E1:Kept (Lr w (w11.setCell ⟨R,4,none⟩ (.int .i64 0)) N M G F x s (0,st3)):=⟨⟨SR.out.l.keep bR (fun g hg hm=>RF.out.1 (by rw[List.mem_singleton] at hm;exact hm▸hg)),SR.out.new,SR.out.de.keep bR (by rw[List.mem_singleton];exact fun h=>RF.out.2.2.2 h.symm) (fun g hg hm=>by rw[List.mem_singleton] at hm;have:=SR.out.lg g hg;have:=RF.out.2.1;omega),SR.out.lg,SR.out.mw,SR.out.bl.trans (bR.below (B:=w.heap.size) SR.out.bl.size (fun g hg=>by rw[List.mem_singleton] at hg;subst hg;exact RF.out.2.1))⟩⟩
          have E2:=Kept.mk (XV.out.bar bR (by rw[List.mem_singleton];exact RF.out.2.2.1))
          have E3:Kept (Blk (w11.setCell ⟨R,4,none⟩ (.int .i64 0)) R 65 #[.int .i64 kind,.int .i64 dst,.int .i64 asset,.int .i64 amount,.int .i64 0,.int .i64 due,.string (strOfNums hash),.string (strOfNums sec)]):=⟨by simpa using hX2⟩
          clear hX2 bR
          go_wp2
          go_meet
          case rel=>exact⟨E1,E2,E3⟩
         ·have hk2':(kind == 2)=false:=beq_eq_false_iff_ne.2 hk2
          have hr0:rid=id:=by rw[← HRID.out,if_neg hk2]
          subst hr0
          go_wp2
          go_meet
          case rel=>exact⟨SR,XV,XR⟩
        case rest =>
        clear SR XV XR v0
        obtain⟨SR,XV,XR⟩:=hcut
        generalize wc=w12 at *
        obtain⟨Q,hQ⟩:∃ Q,w12.heap.size=Q:=⟨_,rfl⟩
        have bb:Below w12.heap.size w12 (w12.alloc (.cells #[.int .i64 kind,.int .i64 dst,.int .i64 asset,.int .i64 amount,.int .i64 rid,.int .i64 due,.string (strOfNums hash),.string (strOfNums sec)] 65)):=(Below.refl _ _).alloc (Nat.le_refl _) _
        have XQ:Kept (Blk (w12.alloc (.cells #[.int .i64 kind,.int .i64 dst,.int .i64 asset,.int .i64 amount,.int .i64 rid,.int .i64 due,.string (strOfNums hash),.string (strOfNums sec)] 65)) Q 65 #[.int .i64 kind,.int .i64 dst,.int .i64 asset,.int .i64 amount,.int .i64 rid,.int .i64 due,.string (strOfNums hash),.string (strOfNums sec)]):=⟨Blk.new_at w12 _ _ Q hQ.symm⟩
        have QF:Kept (Q∉F):=⟨fun hm=>by have:=SR.out.l.lts Q hm;omega⟩
        have r0:=XR.out.cell 0;have r1:=XR.out.cell 1;have r2:=XR.out.cell 2;have r3:=XR.out.cell 3;have r4:=XR.out.cell 4;have r5:=XR.out.cell 5;have r6:=XR.out.cell 6;have r7:=XR.out.cell 7
        have SR2:=Kept.mk (SR.out.below bb);have XV2:=Kept.mk (XV.out.below bb XV.out.lt)
        have KS:Kept (Keeps s0 s):=⟨HREACH.out.keeps WL0.out WI0.out⟩
        have HREQ:Kept ((⟨kind,dst,asset,amount,rid,due,hash,sec⟩:RV)=reqOf ⟨kind,src,dst,asset,amount,id,due,hash,sec⟩):=⟨by unfold reqOf;rw[← HRID.out]⟩
        have KA:=rapply_any (A:=some ⟨Q,0,none⟩) (n:=1) (c:=1) (l:=[⟨kind,dst,asset,amount,rid,due,hash,sec⟩]) who at_ 0 SR2.out.l KS.out.wl KS.out.wi ⟨rfl,.inr ⟨Q,0,rfl,fun kk y hy j v hv=>by
         obtain rfl:kk=0:=by
          have:=(List.getElem?_eq_some_iff.1 hy).1
          simp at this;omega
         simp at hy
         subst hy
         simp only[Nat.zero_mul,Nat.zero_add]
         rw[cell_of_row _ Q j _ _ _ (show _=_ from XQ.out)]
         simpa [rvC] using hv⟩⟩ (.inr ⟨Q,0,rfl,QF.out⟩) (fun y hy=>by rw[List.mem_singleton] at hy;subst hy;exact HVOK.out) (by omega)
        obtain⟨s2,hs2⟩:∃ s2,applyL s who at_ ⟨0,[⟨kind,dst,asset,amount,rid,due,hash,sec⟩]⟩=s2:=⟨_,rfl⟩
        have HDO:Kept (doE s (0,ys)=s2.2):=⟨by unfold doE;rw[HQ1.out,HQ2.out,HQ3.out,← HREQ.out,hs2]⟩
        have HR2:Kept (Reach s0 s2.2):=⟨by rw[← hs2];exact HREACH.out.apply who at_ _ (fun y hy=>by rw[List.mem_singleton] at hy;subst hy;exact HVOK.out)⟩
        unfold RApplyPost at KA
        rw[hs2] at KA
        have KA2:=Kept.mk KA
        clear KA hs2 bb SR XV XQ
        obtain⟨av,s2⟩:=s2
        dsimp only at KA2 HDO HR2
        go_wp2_with fail
        refine KA2.out.mono ?_
        rintro e' w14 ⟨F2,A5,n5,c5,D5,m5,d5,rfl,-,-,-,-,-,-,-,-,hk2,fp⟩
        obtain⟨hv2,hvf⟩:=Lr.blk_led XV2.out VF.out.1 fp
        replace XV:=Kept.mk hv2
        replace SR:=Kept.mk (SR2.out.led hk2 fp)
        clear KA2 hk2 fp hv2 hvf SR2 XV2 XR r0 r1 r2 r3 r4 r5 r6 r7 hQ
        have K2:Kept (Keeps s0 s2):=⟨HR2.out.keeps WL0.out WI0.out⟩
        obtain⟨A4,c4,x4,x3⟩:=SR.out.l.len
        have v0:=XV.out.cell 0;have v1:=XV.out.cell 1;have v2:=XV.out.cell 2;have v3:=XV.out.cell 3;have v4:=XV.out.cell 4;have v5:=XV.out.cell 5;have v6:=XV.out.cell 6;have v7:=XV.out.cell 7;have v8:=XV.out.cell 8
        have hl4:=K2.out.wl.len
        go_upto_region 18 with(fail)
        by_cases hlen:s2.e.length=k+1
        ·obtain⟨y,hy⟩:∃ y,s2.e[k]?=some y:=⟨_,List.getElem?_eq_getElem (by omega)⟩
         obtain⟨b4,o4,c6,z4,hcell⟩:=SR.out.l.row0 hy
         rw[z4] at x4
         injection x4 with x4
         injection x4 with x4 _ x4c
         subst x4 x4c
         have hyo:=(K2.out.wl.each y (List.mem_of_getElem? hy)).2.1
         have HNE:=fun u=>ev_neq y.v ⟨kind,src,dst,asset,amount,id,due,hash,sec⟩ hyo HVOK.out u
         obtain⟨sv,hsv⟩:∃ sv,sameV y.v ⟨kind,src,dst,asset,amount,id,due,hash,sec⟩=sv:=⟨_,rfl⟩
         have HSV:=Kept.mk hsv;have HY:=Kept.mk hy
         rw[hsv] at HNE
         clear hsv hy hyo
         obtain⟨⟨yk,ys_,yd,ya,yn,yi,yu,yh,yc⟩,yw,yt⟩:=y
         have y0:=hcell 0 _ rfl;have y1:=hcell 1 _ rfl;have y2:=hcell 2 _ rfl;have y3:=hcell 3 _ rfl;have y4:=hcell 4 _ rfl;have y5:=hcell 5 _ rfl;have y6:=hcell 6 _ rfl;have y7:=hcell 7 _ rfl;have y8:=hcell 8 _ rfl
         rw[Nat.add_zero] at y0
         unfold vqv at HNE
         dsimp only at y0 y1 y2 y3 y4 y5 y6 y7 y8 HNE
         clear hcell
         have HLEN2:=Kept.mk hlen
         rw[hlen] at z4
         clear hlen hl4 x3
         have hk64:k≤65535:=by omega
         cases sv with
         | false =>
          as_aux_lemma =>
          go_quiet (fail)
          have hno:Kept (∀ s',Reach s0 s'→saveL s'≠b):=⟨fun s' hr hs=>by
           have h1:=HGS.out s' hr hs (by have:=HNL.out s' hr hs;omega)
           rw[HDO.out,HQ3.out] at h1
           have h2:=h1.2.2.2.2.1
           rw[HY.out] at h2
           injection h2 with h2
           have h3:=HSV.out
           dsimp only at h2 h3
           rw[sameV_iff.2 h2] at h3
           cases h3⟩
          have B:=Kept.mk (SR.out.bl.trans ((below_drewN (Below.refl w14.heap.size w14) nq).mono SR.out.bl.size))
          clear HNE z4 y0 y1 y2 y3 y4 y5 y6 y7 y8 v0 v1 v2 v3 v4 v5 v6 v7 v8
          go_wp2
          go_ret2
          exact⟨B.out,.inr (.inl ⟨HOK.out,rfl,fun s' hr=>hno.out s' (by rw[HS0.out] at hr;exact hr)⟩)⟩
         | true =>
          as_aux_lemma =>
          go_quiet (fail)
          replace SR:=Kept.mk (SR.out.below (below_drewN (Below.refl w14.heap.size w14) nq))
          generalize w14.drewN nq=w15 at *
          have SN:Kept (Lo w w15 N M G F2 x (k+1) s0 s2 b (0,st3)):=⟨⟨SR.out.l,SR.out.new,SR.out.de,SR.out.lg,SR.out.mw,SR.out.bl,HR2.out,fun s' hr hs=>by
           have h0:=HNL.out s' hr hs
           have h1:=HGS.out s' hr hs (by omega)
           rw[HDO.out,HQ3.out] at h1
           exact⟨by omega,h1.2.2.2.2.2.1,h1.2.2.2.2.2.2⟩⟩⟩
          have hs3:=HST3.out
          clear HNE z4 y0 y1 y2 y3 y4 y5 y6 y7 y8 v0 v1 v2 v3 v4 v5 v6 v7 v8
          go_wp2
          go_roundw
          case rel=>exact⟨k+1,F2,s2,(0,st3),by omega,by go_num,hs3,SN⟩
          case measure=>simp[Go.RowKit.intOf];omega
        ·as_aux_lemma =>
         have hlen':((s2.e.length:Int) != (k:Int)+1)=true:=by simp;omega
         have hno:Kept (∀ s',Reach s0 s'→saveL s'≠b):=⟨fun s' hr hs=>by
          have h1:=HGS.out s' hr hs (by have:=HNL.out s' hr hs;omega)
          rw[HDO.out] at h1
          exact hlen h1.2.2.2.1⟩
         go_quiet (fail)
         have B:=Kept.mk (SR.out.bl.trans ((below_drewN (Below.refl w14.heap.size w14) nq).mono SR.out.bl.size))
         clear x4 x3 v0 v1 v2 v3 v4 v5 v6 v7 v8
         go_wp2
         go_ret2
         exact⟨B.out,.inr (.inl ⟨HOK.out,rfl,fun s' hr=>hno.out s' (by rw[HS0.out] at hr;exact hr)⟩)⟩
     ·as_aux_lemma =>
      have he3':(e3 != 0)=true:=by simpa using he3
      have hno:Kept (∀ s',Reach s0 s'→saveL s'≠b):=⟨fun s' hr hs=>by
       have h1:=HGS.out s' hr hs (by have:=HNL.out s' hr hs;omega)
       rw[HQ3.out] at h1
       exact he3 h1.1⟩
      have B:=Kept.mk SR.out.bl
      clear KM2
      go_wp2
      go_ret2
      exact⟨B.out,.inr (.inl ⟨HOK.out,rfl,fun s' hr=>hno.out s' (by rw[HS0.out] at hr;exact hr)⟩)⟩
    ·have he0':(err == 0)=false:=beq_eq_false_iff_ne.2 he0
     have hno:Kept (∀ s',Reach s0 s'→saveL s'≠b):=⟨fun s' hr hs=>by
      have:=(S.out.g s' hr hs).2.2
      injection this with h1 _
      exact he0 h1⟩
     have HD:Kept (∀ s',Reach s0 s'→saveL s'=b→((err,ys):St)=(0,[])∧clockL s cv=s'):=⟨fun s' hr hs=>absurd hs (hno.out s' hr)⟩
     go_wp2
     go_meet
     case rel=>exact⟨k,F,s,(err,ys),S,HD⟩
   ·have hkn':¬ (k:Int) < nn:=by omega
    obtain rfl:k=nn:=by omega
    have HD:Kept (∀ s',Reach s0 s'→saveL s'=b→((err,ys):St)=(0,[])∧clockL s cv=s'):=⟨fun s' hr hs=>by
     have h1:=HNL.out s' hr hs
     have h2:=(S.out.g s' hr hs).2.2
     have h3:=gone_end WL0.out WI0.out HE0.out S.out.g (by rw[HN0.out];exact Int.le_refl _) s' hr hs
     rw[HCL.out] at h3
     refine⟨?_,h3⟩
     rw[h2,List.drop_of_length_le (by omega)];rfl⟩
    go_wp2
    go_meet
    case rel=>exact⟨k,F,s,(err,ys),S,HD⟩
 case rest =>
 clear S0
 obtain⟨k,F,s,⟨err,ys⟩,S,DONE⟩:=hcut
 generalize wc=w20 at *
 have SR:=Kept.mk S.out.lr
 have HRS:=Kept.mk S.out.r
 clear S
 have KT:=Kept.mk (rtick_any cv w20)
 obtain⟨tb,htb⟩:∃ tb,tickB cv=tb:=⟨_,rfl⟩
 rw[htb] at KT
 have HTB:=Kept.mk htb
 clear htb
 obtain⟨s3,hs3⟩:∃ s3,clockL s cv=s3:=⟨_,rfl⟩
 have HS3:=Kept.mk hs3
 have HR3:Kept (Reach s0 s3):=⟨hs3▸HRS.out.tick cv⟩
 rw[hs3] at DONE
 clear hs3
 obtain⟨A4,c4,x4,x3⟩:=SR.out.l.len
 go_upto_region 20 with(fail)
 go_cut [125] (fun tz wx=>∃ q:Bool,tz=.bool q∧wx=w20∧Kept (s3=if q=true then ⟨s.cap,s.b,cv,s.e⟩ else s))
 case first =>
  go_wp2_with fail
  refine KT.out.mono ?_
  rintro e w2 ⟨rfl,rfl⟩
  clear KT
  cases tb with
  | false =>
   have hs:Kept (s3=if false=true then ⟨s.cap,s.b,cv,s.e⟩ else s):=⟨by
    rw[← HS3.out];unfold clockL
    rw[if_neg (fun k=>by have:=HTB.out;rw[tickB_iff.2 k.1] at this;cases this)];rfl⟩
   go_wp2
   go_meet
   case rel=>exact⟨_,rfl,rfl,hs⟩
  | true =>
   by_cases hlt:s.clock < cv
   ·have hs:Kept (s3=if true=true then ⟨s.cap,s.b,cv,s.e⟩ else s):=⟨by
     rw[← HS3.out];unfold clockL
     rw[if_pos ⟨tickB_iff.1 HTB.out,hlt⟩];rfl⟩
    go_wp2
    go_meet
    case rel=>exact⟨_,rfl,rfl,hs⟩
   ·have hs:Kept (s3=if false=true then ⟨s.cap,s.b,cv,s.e⟩ else s):=⟨by
     rw[← HS3.out];unfold clockL
     rw[if_neg (fun k=>hlt k.2)];rfl⟩
    have hlt':(s.clock < cv)=False:=eq_false hlt
    go_wp2
    go_meet
    case rel=>exact⟨_,rfl,rfl,hs⟩
 case rest =>
 clear x4 x3 KT
 obtain⟨q,rfl,rfl,HSQ⟩:=hcut
 go_upto_if 125 with(fail)
 go_cut [125] from 126 to 129 (fun _ wx=>Kept (Lr w wx N M G F x s3 (err,ys)))
 case first =>
  cases q with
  | false =>
   have hs:=HSQ.out
   rw[if_neg (by decide)] at hs
   subst hs
   go_wp2
   go_meet
   case rel=>exact SR
  | true =>
   have hs:=HSQ.out
   rw[if_pos rfl] at hs
   have HS:=Kept.mk hs
   obtain⟨-,x3,f3,-⟩:=SR.out.l.cells
   obtain⟨w3,k1,k2,k3,-⟩:=rtick_dk SR.out.l cv
   have E:=Kept.mk (SR.out.led k1 k3)
   have K2:=Kept.mk k2
   clear k1 k2 k3 hs
   go_wp2
   go_meet
   case rel=>rw[HS.out,← K2.out];exact E
 case rest =>
 clear SR HSQ HTB HS3 HRS
 have SR:Kept (Lr w wc N M G F x s3 (err,ys)):=hcut
 clear hcut
 generalize wc=w21 at *
 have W3:Kept (WL s3):=⟨(HR3.out.keeps WL0.out WI0.out).wl⟩
 have KS:=Kept.mk (rsave_any W3.out SR.out.l)
 unfold RSavePost at KS
 go_wp2_with fail
 refine KS.out.mono ?_
 rintro e w22 ⟨A7,n7,c7,rfl,h71,h72,h73,bb⟩
 replace SR:=Kept.mk (SR.out.below bb)
 have H73:=Kept.mk h73
 clear KS bb h73
 have KE:=Kept.mk (rdend_any w22 M G (err,ys) SR.out.de)
 obtain⟨en,hen⟩:∃ en,endOf (err,ys)=en:=⟨_,rfl⟩
 rw[hen] at KE
 have HEN:=Kept.mk hen
 clear hen
 go_wp2_with fail
 refine KE.out.mono ?_
 rintro e w23 ⟨rfl,rfl⟩
 clear KE
 by_cases he0:en=0
 ·subst he0
  have KB:=Kept.mk (bytes_any A7 D n7 m c7 d (saveL s3) b w22 H73.out (HB.out.below SR.out.bl))
  obtain⟨sb,hsb⟩:∃ sb,sameB (saveL s3) b=sb:=⟨_,rfl⟩
  rw[hsb] at KB
  have HSB:=Kept.mk hsb
  clear hsb
  go_wp2_with fail
  refine KB.out.mono ?_
  rintro e w24 ⟨rfl,rfl⟩
  clear KB
  cases sb with
  | false =>
   have hno:Kept (∀ s',Reach s0 s'→saveL s'≠b):=⟨fun s' hr hs=>by
    have h1:=(DONE.out s' hr hs).2
    have h2:=HSB.out
    rw[h1,hs] at h2
    simp[sameB] at h2⟩
   have B:=Kept.mk SR.out.bl
   go_wp2
   go_ret2
   exact⟨B.out,.inr (.inl ⟨HOK.out,rfl,fun s' hr=>hno.out s' (by rw[HS0.out] at hr;exact hr)⟩)⟩
  | true =>
   have hsv:Kept (saveL s3=b):=⟨by have:=HSB.out;simpa [sameB] using this⟩
   have B:=Kept.mk SR.out.bl
   have LK:=Kept.mk (SR.out.l)
   have HNW:=Kept.mk SR.out.new
   go_wp2
   go_ret2
   exact⟨B.out,.inr (.inr ⟨HOK.out,s3,x,F,rfl,by rw[HS0.out];exact HR3.out,hsv.out,LK.out,fun g hg=>(HNW.out g hg).1⟩)⟩
 ·have he0':(en != 0)=true:=by simpa using he0
  have hno:Kept (∀ s',Reach s0 s'→saveL s'≠b):=⟨fun s' hr hs=>by
   have h1:=(DONE.out s' hr hs).1
   have h2:=HEN.out
   rw[h1] at h2
   exact he0 (by rw[← h2];rfl)⟩
  have B:=Kept.mk SR.out.bl
  go_wp2
  go_ret2
  exact⟨B.out,.inr (.inl ⟨HOK.out,rfl,fun s' hr=>hno.out s' (by rw[HS0.out] at hr;exact hr)⟩)⟩
end
end Go.Proofs.YtchcgoabogcabaaGreat.Ledger
