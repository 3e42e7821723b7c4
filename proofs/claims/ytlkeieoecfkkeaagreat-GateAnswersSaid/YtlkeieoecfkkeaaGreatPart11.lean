/-
  Parts laid together: PurseNew PurseRef3 PurseRefNew.
-/
import Derived.Test.YtlkeieoecfkkeaaGreatPart6
import Derived.Deep.RegionHeld3
import Derived.Deep.AppendLies
import Derived.Test.YtlkeieoecfkkeaaGreatPart5
import Derived.Test.YtlkeieoecfkkeaaGreatPart10
set_option maxRecDepth 100000
set_option maxHeartbeats 2000000
namespace Go.Proofs.YtlkeieoecfkkeaaGreat
namespace Purse
open Go.RowKit Sha Num
theorem Tz:261≠38∧261≠3:=by decide
def part (X:Nat→List Int) (k b a:Nat):List Int:=col X (if a < b then k+1 else k) a
theorem VH (X:Nat→List Int) (k a:Nat):part X k 0 a=col X k a:=by simp[part]
theorem Oz (X:Nat→List Int) (k n a:Nat) (h:a < n):part X k n a=col X (k+1) a:=by simp[part,h]
theorem IE (X:Nat→List Int) (k b:Nat):part X k b b=col X k b:=by simp[part]
theorem IG (X:Nat→List Int) (k b:Nat):part X k (b+1) b=part X k b b++[at_ (X k) b]:=by simp[part,kU]
theorem OC (X:Nat→List Int) (k b a:Nat) (h:a≠b):part X k (b+1) a=part X k b a:=by
 unfold part
 by_cases e:a < b
 ·rw[if_pos e,if_pos (by omega)]
 ·rw[if_neg e,if_neg (by omega)]
theorem new_any (A:Option Addr) (n cap:Nat) (X:Nat→List Int) (w:World) (hr:Rwi w A n X) :
    Calls Tryz.prog 118 #[.slice A n cap] w (ig Pc w n X):=by
  have HR:=ae.mk hr
  clear hr
  have NO:¬ mG n X→ae (∀ w',Below w.heap.size w w'→ig Pc w n X (.returned (.tuple #[.pointer none,.int .i64 1])) w'):=fun h=>⟨fun _ b=>.inl ⟨h,rfl,b⟩⟩
  by_cases h2:n < 2
  · have N1:=NO (fun h=>by have:=h.1.1;omega)
    have h2':(n:Int) < 2:=by omega
    clear NO
    go_enter Tryz.func118,Tryz.ntmps118
    go_wp2
    go_ret2
    exact N1.out _ (Below.refl _ _)
  · by_cases h16:16 < n
    · have N1:=NO (fun h=>by have:=h.1.2;omega)
      have h16':16 < (n:Int):=by omega
      have h2':¬ (n:Int) < 2:=by omega
      clear NO
      go_enter Tryz.func118,Tryz.ntmps118
      go_wp2
      go_ret2
      exact N1.out _ (Below.refl _ _)
    · have h16' : ¬ 16 < (n:Int):=by omega
      have h2':¬ (n:Int) < 2:=by omega
      obtain⟨b0,o0,A0,l0,c0,rfl,x0,hl0,hc0,r0⟩:=HR.out.row 0 (by omega)
      have hL0:=ae.mk r0.1
      clear r0
      rw[Nat.add_zero] at x0
      by_cases hl1:l0 < 1
      · have N1:=NO (fun h=>by have:=h.2.1.1;have:=hL0.out;omega)
        have hl1':(l0:Int) < 1:=by omega
        clear NO
        go_enter Tryz.func118,Tryz.ntmps118
        go_wp2
        go_ret2
        exact N1.out _ (Below.refl _ _)
      · by_cases hl4:4 < l0
        · have N1:=NO (fun h=>by have:=h.2.1.2;have:=hL0.out;omega)
          have hl1':¬ (l0:Int) < 1:=by omega
          have hl4':4 < (l0:Int):=by omega
          clear NO
          go_enter Tryz.func118,Tryz.ntmps118
          go_wp2
          go_ret2
          exact N1.out _ (Below.refl _ _)
        · have hl1':¬ (l0:Int) < 1:=by omega
          have hl4':¬ 4 < (l0:Int):=by omega
          obtain⟨w1,hmk,k1,b1⟩:=qC w l0 (by omega)
          obtain⟨N,hN⟩:∃ N,w.heap.size=N:=⟨_,rfl⟩
          rw[hN] at k1 b1 hmk
          have hN1:N+1≤w1.heap.size:=k1.lt
          have G0:=ae.mk (Gr.congr (Gr.start (N:=N) Tz (Blk.new w1 261 #[.slice (some ⟨N,0,none⟩) l0 l0]) (k1.alloc _) (by omega) (Nat.le_refl _) (by omega)) (L':=fun a=>col X 0 a) (fun a _=>rfl))
          have B0:ae (Below N w (w1.alloc (.cells #[.slice (some ⟨N,0,none⟩) l0 l0] 261))):=⟨b1.alloc (by omega) _⟩
          have HN:=ae.mk hN
          have NO:=ae.mk NO
          clear k1 b1 hN
          obtain⟨p,hp⟩:∃ p,w1.heap.size=p:=⟨_,rfl⟩
          rw[hp] at G0
          have HP:=ae.mk hp
          go_enter Tryz.func118,Tryz.ntmps118
          go_wp2
          clear hmk hp
          generalize w1.alloc (.cells #[.slice (some ⟨N,0,none⟩) l0 l0] 261)=w2 at *
          go_loopw [38] (fun i wr=>∃ (k:Nat) (V:Nat→Value),k≤n∧i=.int .i64 k∧ae (∀ r,r < k→(X r).length=l0)∧ae (Gr 261 wr N p N l0 (fun a=>col X k a) V)∧ae (Below N w wr)) (fun i _=>n - (Go.RowKit.intOf i).toNat)
          case atStart=>exact⟨0,_,by omega,rfl,⟨fun r hr=>absurd hr (Nat.not_lt_zero _)⟩,G0,B0⟩
          case round =>
            clear G0 B0
            obtain⟨k,V,hk,rfl,HL,G,B⟩:=hrel
            by_cases hkn:k < n
            · have hkn':(k:Int) < n:=by omega
              obtain⟨b9,o9,Ak,lk,ck,hA,xw,hlk,hck,rk⟩:=HR.out.row k hkn
              injection hA with hA
              injection hA with e1 e2
              subst e1 e2
              have hLk:=ae.mk rk.1
              have RK:=ae.mk rk
              have xk:wr.cell? ⟨b0,o0+k,none⟩=some (.slice Ak lk ck):=by rw[B.out.cell (by have:=World.block_lt_of_cell? _ _ xw;rw[HN.out] at this;exact this)];exact xw
              clear rk xw
              by_cases hlen:lk=l0
              · subst hlen
                go_wp2
                obtain⟨wo,rfl⟩:∃ wo:World,wo=wr:=⟨_,rfl⟩
                go_loopw [48] (fun j wr=>∃ (b:Nat) (V:Nat→Value),b≤lk∧j=.int .i64 b∧ae (Gr 261 wr N p N lk (part X k b) V)∧ae (Below N w wr)) (fun j _=>lk - (Go.RowKit.intOf j).toNat)
                case atStart=>exact⟨0,_,by omega,rfl,⟨G.out.congr (fun a _=>VH X k a)⟩,B⟩
                case round =>
                  clear G B xk
                  obtain⟨b,V,hb,rfl,G,B⟩:=hrel
                  by_cases hbn:b < lk
                  · have hbn':(b:Int) < lk:=by omega
                    obtain⟨Q,h3⟩:=RK.out.below (w':=wr) (by rw[HN.out];exact B.out)
                    obtain⟨bk,ok,rfl,hck⟩:=h3.resolve_left (by omega)
                    have xe:=hck b hbn
                    obtain⟨x,hx⟩:∃ x,at_ (X k) b=x:=⟨_,rfl⟩
                    rw[hx] at xe
                    have HX:=ae.mk hx
                    have p0:=G.out.p0
                    have g0:=G.out.ga hbn
                    have z0:=G.out.fz b
                    have ho:=G.out.own b hbn
                    rw[IE,vF] at ho
                    have HO:=ae.mk ho
                    obtain⟨v,hv⟩:∃ v,V b=v:=⟨_,rfl⟩
                    rw[hv] at g0 HO
                    have HV:=ae.mk hv
                    have NN:=ae.mk (show N≤wr.heap.size by have:=G.out.gt;omega)
                    have hfar:=G.out.far_g hbn
                    have hfarp:=G.out.far_p hbn
                    rw[hv] at hfar hfarp
                    obtain⟨iu,hi,hz0,hz1,hz2⟩:=info_parts wZ
                    have G2:=G.out.below (((Below.refl _ wr).alloc (Nat.le_refl _) (.cells #[.int .i64 x] 3)).drew)
                    have t1:=G2.p0
                    have t2:=G2.ga hbn
                    rw[hv] at t2
                    have t3:=G2.fz b
                    have GG:=ae.mk G2
                    have FF:=ae.mk (And.intro hfar hfarp)
                    have T1:=ae.mk t1;have T2:=ae.mk t2;have T3:=ae.mk t3
                    clear hx Q hck ho hv h3 G2 hfar hfarp t1 t2 t3
                    go_wp2
                    have t1:=T1.out;have t2:=T2.out;have t3:=T3.out
                    go_region_law
                      ((refine step_append_lies _ (by rfl) _ _ _ (by rfl) N 3 iu _ 1 8 Tryz.underlying38 hi hz0 hz1 hz2 rfl (by omega) v k (ints .i64 (col X k b)) (by rfl) ((HO.out.alloc _).drew)
                          ⟨wr.heap.size,0,none⟩ 1 1 [.int .i64 x] (by rfl) (by rfl) (World.news_of_block (cs:=#[.int .i64 x]) (t:=3) (fr:=(0,0)) (heap_alloc_new wr _)) (by simp[Value.oneCell'])
                          (by omega) (by unfold maxLen;omega) (by omega) (by have:=NN.out;simp;omega) (wr.heap.size+1) (by simp) ?_;intro gg cg w3 hown1 hgrow hat hlt1;have U0:=(GG.out.past hgrow FF.out.1 hbn HV.out).1;have U1:=(GG.out.past hgrow FF.out.1 hbn HV.out).2;have U2:=GG.out.pastp hgrow FF.out.2))
                    all_goals
                      obtain⟨V',g3,b3⟩:=GG.out.pushed HV hbn (l':=col X (k+1) b) (by rw[kU,HX.out]) (vF _ _ _) hgrow hown1 hat (L':=part X k (b+1)) (by rw[IG,IE,kU]) (fun q _ hq=>OC X k b q hq) B NN.out
                      clear hgrow hown1 U0 U1 U2 T1 T2 T3 t1 t2 t3 GG G B
                      go_wp2
                      go_roundw
                      case rel=>exact⟨b+1,V',by omega,by go_num,g3,b3⟩
                      case measure=>simp[Go.RowKit.intOf];omega
                  · have hbn':¬ (b:Int) < lk:=by omega
                    obtain rfl:b=lk:=by omega
                    go_wp2
                    go_roundw
                    case rel=>exact⟨k+1,V,by omega,by go_num,⟨fun r hr=>by
                      by_cases e:r=k
                      · subst e;exact hLk.out
                      · exact HL.out r (by omega)⟩,⟨G.out.congr (fun a ha=>(Oz X k b a ha).symm)⟩,B⟩
                    case measure=>simp[Go.RowKit.intOf];omega
              · have hne:¬ (lk:Int)=l0:=by omega
                have N1:=NO.out (fun h=>hlen (by rw[← hLk.out,← hL0.out];exact h.2.2.1 k hkn))
                go_wp2
                go_ret2
                exact N1.out _ (by rw[HN.out];exact B.out)
            · have hkn':¬ (k:Int) < n:=by omega
              obtain rfl:k=n:=by omega
              have p0:=G.out.p0
              go_wp2
              go_loop [76] (fun j=>∃ b:Nat,b≤l0∧j=.int .i64 b∧ae (∀ a,a < b→sumE (col X k a)=0)) (fun j=>l0 - (Go.RowKit.intOf j).toNat)
              case atStart=>exact⟨0,by omega,rfl,⟨fun a ha=>absurd ha (Nat.not_lt_zero _)⟩⟩
              case round =>
                obtain⟨b,hb,rfl,HS⟩:=hrel
                by_cases hbn:b < l0
                · have hbn':(b:Int) < l0:=by omega
                  have g0:=G.out.ga hbn
                  obtain⟨A1,c1,hv,hi⟩:=G.out.ints hbn (vF X k b)
                  rw[hv] at g0
                  have HI:=ae.mk hi
                  clear hv hi
                  cases hs:(aZ 0 (col X k b)).isSome with
                  | true =>
                    have hz:sumE (col X k b)=0:=by simp[sumE,hs,bit]
                    have S1:=ae.mk (sum_any A1 k c1 (col X k b) wr HI.out)
                    rw[hz] at S1
                    have HZ:=ae.mk hz
                    clear hs hz
                    generalize sumN (col X k b)=sn at *
                    go_wp2_with (go_at_call 152;refine S1.out.mono ?_;rintro e w' ⟨rfl,rfl⟩)
                    go_round
                    case rel=>exact⟨b+1,by omega,by go_num,⟨fun a ha=>by
                      by_cases e:a=b
                      · subst e;exact HZ.out
                      · exact HS.out a (by omega)⟩⟩
                    case measure=>simp[Go.RowKit.intOf];omega
                  | false =>
                    have hz:sumE (col X k b)=1:=by simp[sumE,hs,bit]
                    have S1:=ae.mk (sum_any A1 k c1 (col X k b) wr HI.out)
                    rw[hz] at S1
                    have N1:=NO.out (fun h=>by have:=h.2.2.2 b (by rw[hL0.out];exact hbn);omega)
                    clear hs hz
                    generalize sumN (col X k b)=sn at *
                    go_wp2_with (go_at_call 152;refine S1.out.mono ?_;rintro e w' ⟨rfl,rfl⟩)
                    go_ret2
                    exact N1.out _ (by rw[HN.out];exact B.out)
                · have hbn':¬ (b:Int) < l0:=by omega
                  obtain rfl:b=l0:=by omega
                  have ok:mG k X:=⟨⟨by omega,by omega⟩,⟨by have:=hL0.out;omega,by have:=hL0.out;omega⟩,fun r hr=>by rw[HL.out r hr,hL0.out],fun a ha=>HS.out a (by rw[← hL0.out];exact ha)⟩
                  obtain⟨F,m1,m2⟩:=G.out.mx (m:=k) (by omega) (fun a _=>vF X k a)
                  have M1:=ae.mk (show Pc wr F p (newP k X) from⟨ok.wf,by
                    show Mx _ wr F p (X 0).length k _
                    rw[hL0.out]
                    exact m1.congr (fun a i _ hi=>(VW X k a i hi).symm)⟩)
                  have M2:=ae.mk m2
                  have OK:=ae.mk ok
                  clear m1 m2 ok
                  go_wp2
                  go_ret2
                  exact .inr ⟨OK.out,p,F,rfl,M1.out,barOf (by rw[HN.out];exact B.out) [],fun q hq=>.inr (by rw[HN.out];exact M2.out q hq)⟩
structure Gp (T:TypeId) (w:World) (N p k:Nat) (L:Nat→List Int) (v:Value) (V:Nat→Value):Prop where
 hT:T≠38∧T≠3
 hp:Blk w p T #[v]
 hv:w.ownsRow N 38 1 v k ((List.range k).map V)
 own:∀ r,r < k→w.ownsRow N 3 1 (V r) (L r).length (Sha.ints .i64 (L r))
 ap:∀ a b,a < k→b < k→a≠b→Apart (V a) (V b)
 lo:N≤p
section
variable {T : TypeId} {w w' : World} {N p k : Nat} {L : Nat → List Int} {v : Value} {V : Nat → Value} {o : Obj}
theorem own_ne {w:World}{b b':Nat}{e e':TypeId}{s s':Nat}{u v:Value}{n m:Nat}{xs ys:List Value}(h:w.ownsRow b e s u n xs) (h':w.ownsRow b' e' s' v m ys) (he:e≠e'):Apart u v:=by
 intro g hu hv
 rcases h.2 with⟨rfl,_⟩|⟨g1,c1,cur1,rfl,_,hg1,_⟩
 ·simp[Value.ownBlock] at hu
 ·rcases h'.2 with⟨rfl,_⟩|⟨g2,c2,cur2,rfl,_,hg2,_⟩
  ·simp[Value.ownBlock] at hv
  ·simp[Value.ownBlock] at hu hv
   subst hu;subst hv
   rw[hg1] at hg2
   injection hg2 with hg2
   injection hg2 with _ hg2
   exact he hg2
theorem Gp.below (h:Gp T w N p k L v V) (b:Below w.heap.size w w'):Gp T w' N p k L v V :=
 ⟨h.hT,h.hp.below b h.hp.lt,own_keep h.hv (barOf b []) (by simp),fun r hr=>own_keep (h.own r hr) (barOf b []) (by simp),h.ap,h.lo⟩
theorem Gp.p0 (h:Gp T w N p k L v V):w.cell? ⟨p,0,none⟩=some v:=h.hp.cell 0
theorem Gp.fz (h:Gp T w N p k L v V):w.frozen? ⟨p,0,none⟩=false:=h.hp.frozen 0
theorem Gp.far (h:Gp T w N p k L v V):v.ownBlock≠some p:=bK h.hv h.hp (fun e=>h.hT.1 e.symm)
theorem Gp.grownI (h:Gp T (w.alloc o) N p k L v V) {N' n:Nat}{u:Value}{xs:List Value}(hu:w.ownsRow N' 3 1 u n xs) (hg:(w.alloc o).grownBy w' u.ownBlock) (hap:∀ r,r < k→Apart (V r) u):Gp T w' N p k L v V:=by
 have hu2:=hu.alloc o
 refine⟨h.hT,h.hp.grown hg (fun e=>bK hu2 h.hp (fun e=>h.hT.2 e.symm) e.symm),h.hv.kept hg ?_,fun r hr=>(h.own r hr).kept hg ?_,h.ap,h.lo⟩
 ·cases hq:v.ownBlock with
  | none=>exact .inl rfl
  | some g=>exact .inr (fun he=>own_ne h.hv hu2 (by decide) g hq he.symm)
 ·cases hq:(V r).ownBlock with
  | none=>exact .inl rfl
  | some g=>exact .inr (fun he=>hap r hr g hq he.symm)
theorem Gp.apartI (h:Gp T w N p k L v V) {u v':Value}(ap:∀ r,r < k→Apart (V r) u) (hat:v'.ownBlock=u.ownBlock∨v'.ownBlock=some (w.alloc o).heap.size):∀ r,r < k→Apart (V r) v':=by
 intro r hr g hg he
 rcases hat with e|e
 ·rw[e] at he;exact ap r hr g hg he
 ·rw[e] at he
  injection he with he
  have:=((h.own r hr).lt g hg).2
  simp at he
  omega
theorem OG {b:Nat}{u:Value}{n:Nat}{l:List Int}(ho:w.ownsRow b 3 1 u n (Sha.ints .i64 l)):∃ A c,u=.slice A n c∧Num.Ints w A n l:=by
 have hn:l.length=n:=by have:=ho.1;rw[ints_len] at this;omega
 rcases ho.2 with⟨hv,hx⟩|⟨r,c,cur,hv,hr,hb,h1,h2,h3,h4⟩
 ·subst hx
  exact⟨none,0,hv,hn,by omega,.inl rfl⟩
 ·refine⟨_,c,hv,hn,by unfold maxLen at h2;omega,.inr ⟨r,0,rfl,fun i hi=>?_⟩⟩
  rw[hv] at ho
  have h5:=World.ownsRow.cellAt ho i (by omega)
  rw[Sha.ints_at _ _ _ (by omega)] at h5
  rw[Nat.zero_add,h5]
  rfl
theorem Gp.start (hT:T≠38∧T≠3) (hp:Blk w p T #[.slice none 0 0]) (h:N≤p):Gp T w N p 0 L (.slice none 0 0) V :=
 ⟨hT,hp,World.ownsRow_nil _ _ _ _,fun r hr=>by omega,fun a b ha=>by omega,h⟩
theorem Gp.pushed (h:Gp T w N p k L v V) {w1 w2:World}{u v':Value}{l:List Int}{L':Nat→List Int}(b1:Below w.heap.size w w1) (hu:w1.ownsRow N 3 1 u l.length (Sha.ints .i64 l)) (hnew:∀ q,u.ownBlock=some q→w.heap.size≤q)
  (hgrow:w1.grownBy w2 v.ownBlock) (hv':w2.ownsRow N 38 1 v' (k+1) ((List.range k).map V++[u])) (hL:∀ r,r < k→L' r=L r) (hl:L' k=l) :
  Gp T (w2.setCell ⟨p,0,none⟩ v') N p (k+1) L' v' (fun r=>if r=k then u else V r):=by
 have h1:=h.below b1
 have bs:Bar [p] w2 (w2.setCell ⟨p,0,none⟩ v'):=(Bar.refl _ w2).setCell (by simp) _
 have hp2:Blk w2 p T #[v]:=h1.hp.grown hgrow (fun e=>h1.far e.symm)
 have far2:∀ (b:Nat) (x:Value) (n:Nat) (xs:List Value),w2.ownsRow N b 1 x n xs→T≠b→∀ q∈x.ownBlock.toList,q∉[p]:=by
  intro b x n xs hx hb q hq
  have:=bK hx hp2 (fun e=>hb e.symm)
  simp only[Option.mem_toList] at hq
  simp only[List.mem_cons,List.not_mem_nil,or_false]
  rintro rfl
  exact this hq
 have k1:∀ (x:Value) (n:Nat) (xs:List Value),w1.ownsRow N 3 1 x n xs→w2.ownsRow N 3 1 x n xs:=by
  intro x n xs hx
  refine hx.kept hgrow ?_
  cases hq:x.ownBlock with
  | none=>exact .inl rfl
  | some g=>exact .inr (fun he=>own_ne hx h1.hv (by decide) g hq he.symm)
 refine⟨h.hT,?_,own_keep ?_ bs (far2 _ _ _ _ hv' h.hT.1),fun r hr=>?_,fun a b ha hb hab=>?_,h.lo⟩
 ·have:=hp2.set_ 0 v'
  simpa using this
 ·have e:(List.range (k+1)).map (fun r=>if r=k then u else V r)=(List.range k).map V++[u]:=by
   rw[List.range_succ,List.map_append]
   congr 1
   ·apply List.map_congr_left
    intro r hr
    rw[List.mem_range] at hr
    rw[if_neg (by omega)]
   ·simp
  rw[e]
  exact hv'
 ·by_cases e:r=k
  ·subst e
   simp only[if_true]
   rw[hl]
   have:=k1 _ _ _ hu
   exact own_keep this bs (far2 _ _ _ _ this h.hT.2)
  ·simp only[e,if_false]
   rw[hL r (by omega)]
   have:=k1 _ _ _ (h1.own r (by omega))
   exact own_keep this bs (far2 _ _ _ _ this h.hT.2)
 ·have old:∀ r,r < k→∀ q,(V r).ownBlock=some q→q < w.heap.size:=fun r hr q hq=>((h.own r hr).lt q hq).2
  by_cases e:a=k
  ·subst e
   have e2:b≠a:=fun h=>hab h.symm
   simp only[if_true,e2,if_false]
   intro q hq hv
   have:=hnew q hq;have:=old b (by omega) q hv;omega
  ·by_cases e2:b=k
   ·subst e2
    simp only[e,if_false,if_true]
    intro q hq hv
    have:=hnew q hv;have:=old a (by omega) q hq;omega
   ·simp only[e,e2,if_false]
    exact h.ap a b (by omega) (by omega) hab
def qc:Value→Nat
 | .slice (some ad) _ _=>ad.block
 | _=>0
def Dx:Value→Nat
 | .slice _ _ c=>c
 | _=>0
theorem Gp.mx (h:Gp T w N p k L v V) {m:Nat}(hk:1≤k) (hm:1≤m) (hL:∀ r,r < k→(L r).length=m):∃ F,Mx T w F p k m (fun r i=>at_ (L r) i)∧∀ q∈F,N≤q:=by
 have sh:∀ a,a < k→∃ r c cur,V a=.slice (some ⟨r,0,none⟩) m c∧N≤r∧Blk w r 3 cur∧m≤c∧c≤9223372036854775807∧∀ j,j < m→cur[j]?=some (.int .i64 (at_ (L a) j)):=by
  intro a ha
  have ho:=h.own a ha
  rcases ho.2 with⟨hv,hx⟩|⟨r,c,cur,hv,hr,hb,h1,h2,h3,h4⟩
  ·have:=hL a ha
   omega
  ·rw[hL a ha] at hv h1
   refine⟨r,c,cur,hv,hr,hb,h1,by unfold maxLen at h2;omega,fun j hj=>?_⟩
   rw[hv,hL a ha] at ho
   have h5:=World.ownsRow.cellAt ho j (by omega)
   rw[show w.cell? ⟨r,j,none⟩=cur[j]? from cell_of_row w r j cur _ (0,0) hb,Sha.ints_at _ _ _ (by rw[hL a ha];exact hj)] at h5
   exact h5
 have vb:∀ a,a < k→V a=.slice (some ⟨qc (V a),0,none⟩) m (Dx (V a))∧N≤qc (V a)∧m≤Dx (V a)∧Dx (V a)≤9223372036854775807∧RowOf w (qc (V a)) m (fun i=>at_ (L a) i):=by
  intro a ha
  obtain⟨r,c,cur,hv,hr,hb,h1,h2,h3⟩:=sh a ha
  rw[hv]
  exact⟨rfl,hr,h1,h2,cur,hb,h3⟩
 have ho:=h.hv
 rcases h.hv.2 with⟨hv,hx⟩|⟨g,c,cur,hv,hg,hb,h1,h2,h3,h4⟩
 ·omega
 ·refine⟨_,⟨g,c,fun a=>qc (V a),fun a=>Dx (V a),h.hT,by rw[← hv];exact h.hp,⟨cur,hb,fun a ha=>?_⟩,⟨h1,by unfold maxLen at h2;omega⟩,fun a ha=>(vb a ha).2.2,fun a b ha hb hab=>?_,rfl⟩,?_⟩
  ·rw[hv] at ho
   have h5:=World.ownsRow.cellAt ho a (by omega)
   rw[show w.cell? ⟨g,a,none⟩=cur[a]? from cell_of_row w g a cur _ (0,0) hb] at h5
   rw[h5,← (vb a ha).1]
   simp[ha]
  ·by_cases e:a=b
   ·exact e
   ·exfalso
    refine h.ap a b ha hb e (qc (V a)) ?_ ?_
    ·rw[(vb a ha).1];rfl
    ·rw[(vb b hb).1]
     show some (qc (V b))=some (qc (V a))
     rw[hab]
  ·intro q hq
   simp only[List.mem_cons,List.mem_map,List.mem_range] at hq
   rcases hq with rfl|rfl|⟨a,ha,rfl⟩
   ·exact h.lo
   ·exact hg
   ·exact(vb a ha).2.1
end
theorem OH:210≠38∧210≠3:=by decide
theorem II:(Tryz.prog.info? 38).map (fun i=>(i.zero,i.size,i.bytes))=some (some (.slice none 0 0),1,24):=by kernel_rfl
theorem IK {w:World}{b b' size:Nat}{e:TypeId}{v:Value}{n:Nat}{xs:List Value}(h:w.ownsRow b e size v n xs) (hb:b'≤b):w.ownsRow b' e size v n xs:=by
 refine⟨h.1,h.2.imp id ?_⟩
 rintro ⟨g,cap,cur,hv,hg,r⟩
 exact⟨g,cap,cur,hv,Nat.le_trans hb hg,r⟩
theorem Dy (A:Option Addr) (n cap:Nat) (X:Nat→List Int) (w:World) (hr:Rwi w A n X) :
  Calls Tryz.prog 61 #[.slice A n cap] w (ig Pr w n X):=by
 have HR:=ae.mk hr
 clear hr
 have NO:¬ mG n X→ae (∀ w',Below w.heap.size w w'→ig Pr w n X (.returned (.tuple #[.pointer none,.int .i64 1])) w'):=fun h=>⟨fun _ b=>.inl ⟨h,rfl,b⟩⟩
 by_cases h2:n < 2
 ·have N1:=NO (fun h=>by have:=h.1.1;omega)
  have h2':(n:Int) < 2:=by omega
  clear NO
  go_enter Tryz.func61,Tryz.ntmps61
  go_wp2
  go_ret2
  exact N1.out _ (Below.refl _ _)
 ·by_cases h16:16 < n
  ·have N1:=NO (fun h=>by have:=h.1.2;omega)
   have h16':16 < (n:Int):=by omega
   have h2':¬ (n:Int) < 2:=by omega
   clear NO
   go_enter Tryz.func61,Tryz.ntmps61
   go_wp2
   go_ret2
   exact N1.out _ (Below.refl _ _)
  ·have h16':¬ 16 < (n:Int):=by omega
   have h2':¬ (n:Int) < 2:=by omega
   obtain⟨b0,o0,A0,l0,c0,rfl,x0,hl0,hc0,r0⟩:=HR.out.row 0 (by omega)
   have hL0:=ae.mk r0.1
   clear r0
   rw[Nat.add_zero] at x0
   by_cases hl1:l0 < 1
   ·have N1:=NO (fun h=>by have:=h.2.1.1;have:=hL0.out;omega)
    have hl1':(l0:Int) < 1:=by omega
    clear NO
    go_enter Tryz.func61,Tryz.ntmps61
    go_wp2
    go_ret2
    exact N1.out _ (Below.refl _ _)
   ·by_cases hl4:4 < l0
    ·have N1:=NO (fun h=>by have:=h.2.1.2;have:=hL0.out;omega)
     have hl1':¬ (l0:Int) < 1:=by omega
     have hl4':4 < (l0:Int):=by omega
     clear NO
     go_enter Tryz.func61,Tryz.ntmps61
     go_wp2
     go_ret2
     exact N1.out _ (Below.refl _ _)
    ·have hl1':¬ (l0:Int) < 1:=by omega
     have hl4':¬ 4 < (l0:Int):=by omega
     obtain⟨N,hN⟩:∃ N,w.heap.size=N:=⟨_,rfl⟩
     have G0:=ae.mk (Gp.start (N:=N) (L:=X) (V:=fun _=>.slice none 0 0) OH (Blk.new_at w 210 #[.slice none 0 0] N hN.symm) (Nat.le_refl _))
     have B0:ae (Below N w (w.alloc (.cells #[.slice none 0 0] 210))):=⟨(Below.refl _ _).alloc (by omega) _⟩
     have HN:=ae.mk hN
     have NK:=ae.mk NO
     clear NO
     go_enter Tryz.func61,Tryz.ntmps61
     go_wp2
     clear hN
     generalize w.alloc (.cells #[.slice none 0 0] 210)=w2 at *
     go_loopw [5] (fun i wr=>∃ (k:Nat) (v:Value) (V:Nat→Value),k≤n∧i=.int .i64 k∧ae (∀ r,r < k→(X r).length=l0)∧ae (Gp 210 wr N N k X v V)∧ae (Below N w wr)) (fun i _=>n - (Go.RowKit.intOf i).toNat)
     case atStart=>exact⟨0,_,_,by omega,rfl,⟨fun r hr=>absurd hr (Nat.not_lt_zero _)⟩,G0,B0⟩
     case round =>
      clear G0 B0
      obtain⟨k,v,V,hk,rfl,HL,G,B⟩:=hrel
      have x0w:wr.cell? ⟨b0,o0,none⟩=some (.slice A0 l0 c0):=by rw[B.out.cell (by have:=World.block_lt_of_cell? _ _ x0;rw[HN.out] at this;exact this)];exact x0
      by_cases hkn:k < n
      ·have hkn':(k:Int) < n:=by omega
       obtain⟨b9,o9,Ak,lk,ck,hA,xw,hlk,hck,rk⟩:=HR.out.row k hkn
       injection hA with hA
       injection hA with e1 e2
       subst e1 e2
       have hLk:=ae.mk rk.1
       have RK:=ae.mk rk
       have xk:wr.cell? ⟨b0,o0+k,none⟩=some (.slice Ak lk ck):=by rw[B.out.cell (by have:=World.block_lt_of_cell? _ _ xw;rw[HN.out] at this;exact this)];exact xw
       clear rk xw
       by_cases hlen:lk=l0
       ·subst hlen
        go_wp2
        go_quiet (fail)
        have bq:Below wr.heap.size wr (wr.drewN nq):=below_drewN (Below.refl _ _) _
        have G2:=ae.mk (G.out.below bq)
        have B2:ae (Below N w (wr.drewN nq)):=⟨below_drewN B.out _⟩
        have xk2:(wr.drewN nq).cell? ⟨b0,o0+k,none⟩=some (.slice Ak lk ck):=xk
        clear G B bq xk x0w
        generalize wr.drewN nq=w3 at *
        go_wp2
        obtain⟨Av,cv,hv⟩:=aY G2.out.hv
        subst hv
        refine wp_region_noPanic ?_
        refine jO 14 (S:=fun w':World=>w'.cell? ⟨N,0,none⟩=some (.slice Av k cv)∧w'.cell? ⟨b0,o0+k,none⟩=some (.slice Ak lk ck)) (by kernel_rfl) ⟨G2.out.p0,xk2⟩ (fun hS0=>?_)
        have bd:Below w3.heap.size w3 w3.drew:=(Below.refl _ _).drew
        have G3:=ae.mk (G2.out.below bd)
        have B3:ae (Below N w w3.drew):=⟨B2.out.drew⟩
        have RI:=ae.mk (RK.out.below (w':=w3.drew) (by rw[HN.out];exact B3.out))
        have NN:N≤w3.drew.heap.size:=by have:=G3.out.hp.lt;omega
        have LB:b0 < w3.drew.heap.size:=World.block_lt_of_cell? _ _ hS0.2
        clear G2 B2 bd xk2
        generalize w3.drew=w4 at *
        refine tkU 0 (by assumption) ?_
        simp only[Act.put,zA,zB,zC]
        refine tkU 1 (by assumption) ?_
        simp only[Act.put,zA,zB,zC]
        refine tkU 2 (by assumption) ?_
        simp only[Act.put,zA,zB,zC]
        refine tkU 3 (by assumption) ?_
        simp only[Act.put,zA,zB,zC]
        refine tkU 4 (by assumption) ?_
        simp only[Act.put,zA,zB,zC]
        refine tkU 5 (by assumption) ?_
        simp only[Act.put,zA,zB,zC]
        refine tkU 6 (by assumption) ?_
        simp only[Act.put,zA,zB,zC]
        refine tkU 7 (by assumption) ?_
        simp only[Act.put,zA,zB,zC]
        refine tkU 8 (by assumption) ?_
        simp only[Act.put,zA,zB,zC]
        refine ldU 9 (fun K hK=>?_)
        go_simp
        go_at_call 101
        refine(Oh Ak lk ck (X k) w4 RI.out (by omega)).mono ?_
        rintro e w5 ⟨u,rfl,hown,bel⟩
        obtain⟨Au,cu,hu⟩:=aY hown
        subst hu
        have G5:=ae.mk (G3.out.below bel)
        have z5:w5.cell? ⟨b0,o0+k,none⟩=some (.slice Ak lk ck):=by rw[bel.cell (by simpa using LB)];exact hS0.2
        refine hK.out _ _ (fun _=>⟨G5.out.p0,z5⟩) (fun _=>?_)
        clear hK K hS0
        try simp only[Act.put,zA,zB,zC]
        refine ldU 10 (fun K hK=>?_)
        go_simp
        have ba:Below w5.heap.size w5 (w5.alloc (.cells #[.slice Au lk cu] 38)):=(Below.refl _ _).alloc (Nat.le_refl _) _
        have cB:(w5.alloc (.cells #[.slice Au lk cu] 38)).cell? ⟨w5.heap.size,0,none⟩=some (.slice Au lk cu):=(Blk.new w5 38 #[.slice Au lk cu]).cell 0
        have G6:=ae.mk (G5.out.below ba)
        have O6:=ae.mk (own_keep hown (barOf ba []) (by simp))
        have b46:ae (Below w4.heap.size w4 (w5.alloc (.cells #[.slice Au lk cu] 38))):=⟨bel.trans (ba.mono bel.size)⟩
        have z6:(w5.alloc (.cells #[.slice Au lk cu] 38)).cell? ⟨b0,o0+k,none⟩=some (.slice Ak lk ck):=by rw[ba.cell (by have:=bel.size;simp;omega)];exact z5
        refine hK.out _ _ (fun _=>⟨G6.out.p0,z6⟩) (fun _=>?_)
        clear hK K G5 z5 hown bel ba
        try simp only[Act.put,zA,zB,zC]
        generalize w5.alloc (.cells #[.slice Au lk cu] 38)=w6 at *
        generalize w5.heap.size=gB at *
        obtain⟨iu,hi,hz0,hz1,hz2⟩:=info_parts II
        have N6:N≤w6.heap.size:=by have:=b46.out.size;omega
        refine ldU 11 (fun K hK=>?_)
        refine step_append_lies _ (by rfl) _ _ _ (by rfl) N 38 iu _ 1 24 Tryz.underlying39 hi hz0 hz1 hz2 rfl (by omega) (.slice Av k cv) k ((List.range k).map V) (by rfl) G6.out.hv
         ⟨gB,0,none⟩ 1 1 [.slice Au lk cu] (by rfl) (by rfl) (fun j u hj=>by
          match j,hj with
          | 0,hj=>simp at hj;subst hj;exact cB) (by simp[Value.oneCell']) (by omega) (by unfold maxLen;omega) (by omega) N6 w6.heap.size rfl ?_
        intro gg cg w7 hown1 hgrow hat hlt1
        have G8:=ae.mk (G3.out.pushed (L':=X) (l:=X k) (v':=.slice (some ⟨gg,0,none⟩) (k+1) cg) b46.out (IK (by rw[hLk.out];exact O6.out) NN) (fun q hq=>(O6.out.lt q hq).1) hgrow hown1 (fun _ _=>rfl) rfl)
        have hp7:=G6.out.hp.grown hgrow (fun e=>G6.out.far e.symm)
        have b67:=own_below G6.out.hv hgrow N6
        have B8:ae (Below N w (w7.setCell ⟨N,0,none⟩ (.slice (some ⟨gg,0,none⟩) (k+1) cg))):=⟨((B3.out.trans (b46.out.mono NN)).trans b67).setCell (Nat.le_refl _) _⟩
        have z7:w7.cell? ⟨b0,o0+k,none⟩=some (.slice Ak lk ck):=by rw[b67.cell (by have:=World.block_lt_of_cell? _ _ x0;rw[HN.out] at this;exact this)];exact z6
        have c7:=hp7.cell 0
        have f7:=hp7.frozen 0
        have c7':w7.cell? ⟨N,0,none⟩=some (.slice Av k cv):=c7
        clear hown1 hgrow hat hlt1 hp7 G3 B3 G6 b46 z6 cB O6 N6 c7 b67
        refine hK.out _ _ (fun _=>⟨c7',z7⟩) (fun _=>?_)
        clear hK K
        try simp only[Act.put,zA,zB,zC]
        refine ldU 12 (fun K hK=>?_)
        go_simp
        refine hK.out _ _ (fun _=>⟨c7',z7⟩) (fun _=>?_)
        clear hK K
        try simp only[Act.put,zA,zB,zC]
        refine ldU 13 (fun K hK=>?_)
        go_simp
        refine hK.out _ _ (fun _=>⟨c7',z7⟩) (fun _=>?_)
        clear hK K
        try simp only[Act.put,zA,zB,zC]
        refine ldU 14 (fun K hK=>?_)
        go_simp
        refine hK.out _ _ (fun h=>absurd rfl h) (fun _=>?_)
        clear hK K
        try simp only[Act.put,zA,zB,zC]
        refine jM (by kernel_rfl) ?_ _
        refine NoPanic.normal ?_
        clear c7' z7 f7
        go_wp2
        go_roundw
        case rel=>exact⟨k+1,_,_,by omega,by go_num,⟨fun r hr=>by
         by_cases e:r=k
         ·subst e;exact hLk.out
         ·exact HL.out r (by omega)⟩,G8,B8⟩
        case measure=>simp[Go.RowKit.intOf];omega
       ·have hne:¬ (lk:Int)=l0:=by omega
        have N1:=NK.out (fun h=>hlen (by rw[← hLk.out,← hL0.out];exact h.2.2.1 k hkn))
        go_wp2
        go_quiet (fail)
        have B2:ae (Below N w (wr.drewN nq)):=⟨below_drewN B.out _⟩
        go_wp2
        go_ret2
        exact N1.out _ (by rw[HN.out];exact B2.out)
      ·have hkn':¬ (k:Int) < n:=by omega
       obtain rfl:k=n:=by omega
       go_wp2
       obtain⟨wo,rfl⟩:∃ wo:World,wo=wr:=⟨_,rfl⟩
       go_loopw [6] (fun i wr=>∃ b:Nat,b≤l0∧i=.int .i64 b∧ae (∀ a,a < b→sumE (col X k a)=0)∧ae (Gp 210 wr N N k X v V)∧ae (Below N w wr)) (fun i _=>l0 - (Go.RowKit.intOf i).toNat)
       case atStart=>exact⟨0,by omega,rfl,⟨fun a ha=>absurd ha (Nat.not_lt_zero _)⟩,G,B⟩
       case round =>
        clear G B x0w
        obtain⟨b,hb,rfl,HS,G,B⟩:=hrel
        have x0w:wr.cell? ⟨b0,o0,none⟩=some (.slice A0 l0 c0):=by rw[B.out.cell (by have:=World.block_lt_of_cell? _ _ x0;rw[HN.out] at this;exact this)];exact x0
        by_cases hbn:b < l0
        ·have hbn':(b:Int) < l0:=by omega
         go_wp2
         obtain⟨wi,hwi⟩:∃ wi:World,wi=wr:=⟨_,rfl⟩
         subst hwi
         go_loopw [7,8] (fun l i wr=>∃ (q:Nat) (u:Value),q≤k∧u=l∧i=.int .i64 q∧ae (wr.ownsRow N 3 1 u q (Sha.ints .i64 (col X q b)))∧ae (∀ r,r < k→Apart (V r) u)∧ae (Gp 210 wr N N k X v V)∧ae (Below N w wr)) (fun _ i _=>k - (Go.RowKit.intOf i).toNat)
         case atStart=>exact⟨0,_,by omega,rfl,rfl,⟨World.ownsRow_nil _ _ _ _⟩,⟨fun r _ g _ he=>by simp[Value.ownBlock] at he⟩,G,B⟩
         case round =>
          clear G B x0w
          obtain⟨q,u,hq,rfl,rfl,HO,AP,G,B⟩:=hrel
          by_cases hqk:q < k
          ·have hqk':(q:Int) < k:=by omega
           obtain⟨b9,o9,Ak,lk,ck,hA,xw,hlk,hck,rk⟩:=HR.out.row q hqk
           injection hA with hA
           injection hA with e1 e2
           subst e1 e2
           obtain rfl:lk=l0:=by rw[← rk.1];exact HL.out q hqk
           have xq:wr.cell? ⟨b0,o0+q,none⟩=some (.slice Ak lk ck):=by rw[B.out.cell (by have:=World.block_lt_of_cell? _ _ xw;rw[HN.out] at this;exact this)];exact xw
           obtain⟨Q,h3⟩:=rk.below (w':=wr) (by rw[HN.out];exact B.out)
           obtain⟨bk,ok,rfl,hcl⟩:=h3.resolve_left (by omega)
           have xe:=hcl b hbn
           obtain⟨x,hx⟩:∃ x,at_ (X q) b=x:=⟨_,rfl⟩
           rw[hx] at xe
           have HX:=ae.mk hx
           have NN:N≤wr.heap.size:=by have:=G.out.hp.lt;omega
           have OA:=ae.mk (HO.out.alloc (.cells #[.int .i64 x] 3))
           have RX:ae (Ri (wr.alloc (.cells #[.int .i64 x] 3)) (some ⟨wr.heap.size,0,none⟩) 1 [x]):=⟨Ri.blk (Blk.new wr 3 #[.int .i64 x]) rfl⟩
           have GA:=ae.mk (G.out.below ((Below.refl _ wr).alloc (Nat.le_refl _) (.cells #[.int .i64 x] 3)))
           have BA:ae (Below N w (wr.alloc (.cells #[.int .i64 x] 3))):=⟨B.out.alloc NN _⟩
           have h2q:q+1≤4294967296:=by omega
           clear xw Q h3 hcl hx rk
           go_wp2_with ((with_reducible refine sel 88 ?_);refine iQ rfl (.tmp 79) (.tmp 87) 38 rfl N 3 Tryz.underlying38 wZ u q (Sha.ints .i64 (col X q b)) rfl OA.out (some ⟨wr.heap.size,0,none⟩) 1 1 [x] rfl RX.out h2q (by simp;omega) ?_;intro v' w' ho hg hat)
           have O2:ae (w'.ownsRow N 3 1 v' (q+1) (Sha.ints .i64 (col X (q+1) b))):=⟨by rw[kU,HX.out,af];exact ho.out⟩
           have bo:=own_below OA.out hg (by simp;omega)
           have B2:ae (Below N w w'):=⟨BA.out.trans bo⟩
           have G2:ae (Gp 210 w' N N k X v V):=⟨GA.out.grownI HO.out hg AP.out⟩
           have AP2:ae (∀ r,r < k→Apart (V r) v'):=⟨G.out.apartI AP.out hat⟩
           clear bo
           go_roundw
           case rel=>exact⟨q+1,_,by omega,rfl,by go_num,O2,AP2,G2,B2⟩
           case measure=>simp[Go.RowKit.intOf];omega
          ·have hqk':¬ (q:Int) < k:=by omega
           obtain rfl:q=k:=by omega
           obtain⟨A1,c1,hu,hi⟩:=OG HO.out
           subst hu
           have HI:=ae.mk hi
           clear hi
           cases hs:(aZ 0 (col X q b)).isSome with
           | true =>
            have hz:sumE (col X q b)=0:=by simp[sumE,hs,bit]
            have S1:=ae.mk (FC A1 q c1 (col X q b) wr HI.out)
            rw[hz] at S1
            have HZ:=ae.mk hz
            clear hs hz
            generalize sumN (col X q b)=sn at *
            go_wp2_with (go_at_call 102;refine S1.out.mono ?_;rintro e w' ⟨rfl,rfl⟩)
            go_roundw
            case rel=>exact⟨b+1,by omega,by go_num,⟨fun a ha=>by
             by_cases e:a=b
             ·subst e;exact HZ.out
             ·exact HS.out a (by omega)⟩,G,B⟩
            case measure=>simp[Go.RowKit.intOf];omega
           | false =>
            have hz:sumE (col X q b)=1:=by simp[sumE,hs,bit]
            have S1:=ae.mk (FC A1 q c1 (col X q b) wr HI.out)
            rw[hz] at S1
            have N1:=NK.out (fun h=>by have:=h.2.2.2 b (by rw[hL0.out];exact hbn);omega)
            clear hs hz
            generalize sumN (col X q b)=sn at *
            go_wp2_with (go_at_call 102;refine S1.out.mono ?_;rintro e w' ⟨rfl,rfl⟩)
            go_ret2
            exact N1.out _ (by rw[HN.out];exact B.out)
        ·have hbn':¬ (b:Int) < l0:=by omega
         obtain rfl:b=l0:=by omega
         have ok:mG k X:=⟨⟨by omega,by omega⟩,⟨by have:=hL0.out;omega,by have:=hL0.out;omega⟩,fun r hr=>by rw[HL.out r hr,hL0.out],fun a ha=>HS.out a (by rw[← hL0.out];exact ha)⟩
         obtain⟨F,m1,m2⟩:=G.out.mx (m:=b) (by omega) (by omega) (fun a ha=>HL.out a ha)
         have M1:=ae.mk (show Pr wr F N (newP k X) from⟨ok.wf,by
          show Mx _ wr F N k (X 0).length _
          rw[hL0.out]
          exact m1⟩)
         have M2:=ae.mk m2
         have OK:=ae.mk ok
         clear m1 m2 ok
         go_wp2
         go_ret2
         exact .inr ⟨OK.out,N,F,rfl,M1.out,barOf (by rw[HN.out];exact B.out) [],fun q hq=>.inr (by rw[HN.out];exact M2.out q hq)⟩
end Purse
end Go.Proofs.YtlkeieoecfkkeaaGreat
