/-
  Parts laid together: PurseNew.
-/
import Derived.Test.YtlkeieoecfkkeaaGreatPart6
import Derived.Deep.RegionHeld3
import Derived.Deep.AppendLies
namespace Go.Proofs.YtlkeieoecfkkeaaGreat.Purse
open Go.RowKit Go.Proofs.YtlkeieoecfkkeaaGreat.Sha Go.Proofs.YtlkeieoecfkkeaaGreat.Num
theorem purse_T:261≠38∧261≠3:=by decide
def part (X:Nat→List Int) (k b a:Nat):List Int:=col X (if a < b then k+1 else k) a
theorem part_0 (X:Nat→List Int) (k a:Nat):part X k 0 a=col X k a:=by simp[part]
theorem part_all (X:Nat→List Int) (k n a:Nat) (h:a < n):part X k n a=col X (k+1) a:=by simp[part,h]
theorem part_at (X:Nat→List Int) (k b:Nat):part X k b b=col X k b:=by simp[part]
theorem part_next (X:Nat→List Int) (k b:Nat):part X k (b+1) b=part X k b b++[at_ (X k) b]:=by simp[part,col_succ]
theorem part_far (X:Nat→List Int) (k b a:Nat) (h:a≠b):part X k (b+1) a=part X k b a:=by
 unfold part
 by_cases e:a < b
 ·rw[if_pos e,if_pos (by omega)]
 ·rw[if_neg e,if_neg (by omega)]
set_option maxRecDepth 100000 in
set_option maxHeartbeats 2000000 in
theorem new_any (A:Option Addr) (n cap:Nat) (X:Nat→List Int) (w:World) (hr:Rwi w A n X) :
    Calls Tryz.prog 118 #[.slice A n cap] w (NewPost Pc w n X):=by
  have HR:=Kept.mk hr
  clear hr
  have NO:¬ newOk n X→Kept (∀ w',Below w.heap.size w w'→NewPost Pc w n X (.returned (.tuple #[.pointer none,.int .i64 1])) w'):=fun h=>⟨fun _ b=>.inl ⟨h,rfl,b⟩⟩
  by_cases h2:n < 2
  · have N1:=NO (fun h=>by have:=h.1.1;omega)
    have h2':(n:Int) < 2:=by omega
    clear NO
    go_enter Tryz.func118,Tryz.ntmps118
    go_wp2
    go_ret2
    exact N1.out _ (Below.refl _ _)
  · by_cases h16:16 < n
    · have N1:=NO (fun h=>by have:=h.1.2;omega)
      have h16':16 < (n:Int):=by omega
      have h2':¬ (n:Int) < 2:=by omega
      clear NO
      go_enter Tryz.func118,Tryz.ntmps118
      go_wp2
      go_ret2
      exact N1.out _ (Below.refl _ _)
    · have h16' : ¬ 16 < (n:Int):=by omega
      have h2':¬ (n:Int) < 2:=by omega
      obtain⟨b0,o0,A0,l0,c0,rfl,x0,hl0,hc0,r0⟩:=HR.out.row 0 (by omega)
      have hL0:=Kept.mk r0.1
      clear r0
      rw[Nat.add_zero] at x0
      by_cases hl1:l0 < 1
      · have N1:=NO (fun h=>by have:=h.2.1.1;have:=hL0.out;omega)
        have hl1':(l0:Int) < 1:=by omega
        clear NO
        go_enter Tryz.func118,Tryz.ntmps118
        go_wp2
        go_ret2
        exact N1.out _ (Below.refl _ _)
      · by_cases hl4:4 < l0
        · have N1:=NO (fun h=>by have:=h.2.1.2;have:=hL0.out;omega)
          have hl1':¬ (l0:Int) < 1:=by omega
          have hl4':4 < (l0:Int):=by omega
          clear NO
          go_enter Tryz.func118,Tryz.ntmps118
          go_wp2
          go_ret2
          exact N1.out _ (Below.refl _ _)
        · have hl1':¬ (l0:Int) < 1:=by omega
          have hl4':¬ 4 < (l0:Int):=by omega
          obtain⟨w1,hmk,k1,b1⟩:=make_rows w l0 (by omega)
          obtain⟨N,hN⟩:∃ N,w.heap.size=N:=⟨_,rfl⟩
          rw[hN] at k1 b1 hmk
          have hN1:N+1≤w1.heap.size:=k1.lt
          have G0:=Kept.mk (Gr.congr (Gr.start (N:=N) purse_T (Blk.new w1 261 #[.slice (some ⟨N,0,none⟩) l0 l0]) (k1.alloc _) (by omega) (Nat.le_refl _) (by omega)) (L':=fun a=>col X 0 a) (fun a _=>rfl))
          have B0:Kept (Below N w (w1.alloc (.cells #[.slice (some ⟨N,0,none⟩) l0 l0] 261))):=⟨b1.alloc (by omega) _⟩
          have HN:=Kept.mk hN
          have NO:=Kept.mk NO
          clear k1 b1 hN
          obtain⟨p,hp⟩:∃ p,w1.heap.size=p:=⟨_,rfl⟩
          rw[hp] at G0
          have HP:=Kept.mk hp
          go_enter Tryz.func118,Tryz.ntmps118
          go_wp2
          clear hmk hp
          generalize w1.alloc (.cells #[.slice (some ⟨N,0,none⟩) l0 l0] 261)=w2 at *
          go_loopw [38] (fun i wr=>∃ (k:Nat) (V:Nat→Value),k≤n∧i=.int .i64 k∧Kept (∀ r,r < k→(X r).length=l0)∧Kept (Gr 261 wr N p N l0 (fun a=>col X k a) V)∧Kept (Below N w wr)) (fun i _=>n - (Go.RowKit.intOf i).toNat)
          case atStart=>exact⟨0,_,by omega,rfl,⟨fun r hr=>absurd hr (Nat.not_lt_zero _)⟩,G0,B0⟩
          case round =>
            clear G0 B0
            obtain⟨k,V,hk,rfl,HL,G,B⟩:=hrel
            by_cases hkn:k < n
            · have hkn':(k:Int) < n:=by omega
              obtain⟨b9,o9,Ak,lk,ck,hA,xw,hlk,hck,rk⟩:=HR.out.row k hkn
              injection hA with hA
              injection hA with e1 e2
              subst e1 e2
              have hLk:=Kept.mk rk.1
              have RK:=Kept.mk rk
              have xk:wr.cell? ⟨b0,o0+k,none⟩=some (.slice Ak lk ck):=by rw[B.out.cell (by have:=World.block_lt_of_cell? _ _ xw;rw[HN.out] at this;exact this)];exact xw
              clear rk xw
              by_cases hlen:lk=l0
              · subst hlen
                go_wp2
                obtain⟨wo,rfl⟩:∃ wo:World,wo=wr:=⟨_,rfl⟩
                go_loopw [48] (fun j wr=>∃ (b:Nat) (V:Nat→Value),b≤lk∧j=.int .i64 b∧Kept (Gr 261 wr N p N lk (part X k b) V)∧Kept (Below N w wr)) (fun j _=>lk - (Go.RowKit.intOf j).toNat)
                case atStart=>exact⟨0,_,by omega,rfl,⟨G.out.congr (fun a _=>part_0 X k a)⟩,B⟩
                case round =>
                  clear G B xk
                  obtain⟨b,V,hb,rfl,G,B⟩:=hrel
                  by_cases hbn:b < lk
                  · have hbn':(b:Int) < lk:=by omega
                    obtain⟨Q,h3⟩:=RK.out.below (w':=wr) (by rw[HN.out];exact B.out)
                    obtain⟨bk,ok,rfl,hck⟩:=h3.resolve_left (by omega)
                    have xe:=hck b hbn
                    obtain⟨x,hx⟩:∃ x,at_ (X k) b=x:=⟨_,rfl⟩
                    rw[hx] at xe
                    have HX:=Kept.mk hx
                    have p0:=G.out.p0
                    have g0:=G.out.ga hbn
                    have z0:=G.out.fz b
                    have ho:=G.out.own b hbn
                    rw[part_at,col_len] at ho
                    have HO:=Kept.mk ho
                    obtain⟨v,hv⟩:∃ v,V b=v:=⟨_,rfl⟩
                    rw[hv] at g0 HO
                    have HV:=Kept.mk hv
                    have NN:=Kept.mk (show N≤wr.heap.size by have:=G.out.gt;omega)
                    have hfar:=G.out.far_g hbn
                    have hfarp:=G.out.far_p hbn
                    rw[hv] at hfar hfarp
                    obtain⟨iu,hi,hz0,hz1,hz2⟩:=info_parts info_int
                    have G2:=G.out.below (((Below.refl _ wr).alloc (Nat.le_refl _) (.cells #[.int .i64 x] 3)).drew)
                    have t1:=G2.p0
                    have t2:=G2.ga hbn
                    rw[hv] at t2
                    have t3:=G2.fz b
                    have GG:=Kept.mk G2
                    have FF:=Kept.mk (And.intro hfar hfarp)
                    have T1:=Kept.mk t1;have T2:=Kept.mk t2;have T3:=Kept.mk t3
                    clear hx Q hck ho hv h3 G2 hfar hfarp t1 t2 t3
                    go_wp2
                    have t1:=T1.out;have t2:=T2.out;have t3:=T3.out
                    go_region_law
                      ((refine step_append_lies _ (by rfl) _ _ _ (by rfl) N 3 iu _ 1 8 Tryz.underlying38 hi hz0 hz1 hz2 rfl (by omega) v k (ints .i64 (col X k b)) (by rfl) ((HO.out.alloc _).drew)
                          ⟨wr.heap.size,0,none⟩ 1 1 [.int .i64 x] (by rfl) (by rfl) (World.news_of_block (cs:=#[.int .i64 x]) (t:=3) (fr:=(0,0)) (heap_alloc_new wr _)) (by simp[Value.oneCell'])
                          (by omega) (by unfold maxLen;omega) (by omega) (by have:=NN.out;simp;omega) (wr.heap.size+1) (by simp) ?_;intro gg cg w3 hown1 hgrow hat hlt1;have U0:=(GG.out.past hgrow FF.out.1 hbn HV.out).1;have U1:=(GG.out.past hgrow FF.out.1 hbn HV.out).2;have U2:=GG.out.pastp hgrow FF.out.2))
                    all_goals
                      obtain⟨V',g3,b3⟩:=GG.out.pushed HV hbn (l':=col X (k+1) b) (by rw[col_succ,HX.out]) (col_len _ _ _) hgrow hown1 hat (L':=part X k (b+1)) (by rw[part_next,part_at,col_succ]) (fun q _ hq=>part_far X k b q hq) B NN.out
                      clear hgrow hown1 U0 U1 U2 T1 T2 T3 t1 t2 t3 GG G B
                      go_wp2
                      go_roundw
                      case rel=>exact⟨b+1,V',by omega,by go_num,g3,b3⟩
                      case measure=>simp[Go.RowKit.intOf];omega
                  · have hbn':¬ (b:Int) < lk:=by omega
                    obtain rfl:b=lk:=by omega
                    go_wp2
                    go_roundw
                    case rel=>exact⟨k+1,V,by omega,by go_num,⟨fun r hr=>by
                      by_cases e:r=k
                      · subst e;exact hLk.out
                      · exact HL.out r (by omega)⟩,⟨G.out.congr (fun a ha=>(part_all X k b a ha).symm)⟩,B⟩
                    case measure=>simp[Go.RowKit.intOf];omega
              · have hne:¬ (lk:Int)=l0:=by omega
                have N1:=NO.out (fun h=>hlen (by rw[← hLk.out,← hL0.out];exact h.2.2.1 k hkn))
                go_wp2
                go_ret2
                exact N1.out _ (by rw[HN.out];exact B.out)
            · have hkn':¬ (k:Int) < n:=by omega
              obtain rfl:k=n:=by omega
              have p0:=G.out.p0
              go_wp2
              go_loop [76] (fun j=>∃ b:Nat,b≤l0∧j=.int .i64 b∧Kept (∀ a,a < b→sumE (col X k a)=0)) (fun j=>l0 - (Go.RowKit.intOf j).toNat)
              case atStart=>exact⟨0,by omega,rfl,⟨fun a ha=>absurd ha (Nat.not_lt_zero _)⟩⟩
              case round =>
                obtain⟨b,hb,rfl,HS⟩:=hrel
                by_cases hbn:b < l0
                · have hbn':(b:Int) < l0:=by omega
                  have g0:=G.out.ga hbn
                  obtain⟨A1,c1,hv,hi⟩:=G.out.ints hbn (col_len X k b)
                  rw[hv] at g0
                  have HI:=Kept.mk hi
                  clear hv hi
                  cases hs:(sumGo 0 (col X k b)).isSome with
                  | true =>
                    have hz:sumE (col X k b)=0:=by simp[sumE,hs,bit]
                    have S1:=Kept.mk (sum_any A1 k c1 (col X k b) wr HI.out)
                    rw[hz] at S1
                    have HZ:=Kept.mk hz
                    clear hs hz
                    generalize sumN (col X k b)=sn at *
                    go_wp2_with (go_at_call 152;refine S1.out.mono ?_;rintro e w' ⟨rfl,rfl⟩)
                    go_round
                    case rel=>exact⟨b+1,by omega,by go_num,⟨fun a ha=>by
                      by_cases e:a=b
                      · subst e;exact HZ.out
                      · exact HS.out a (by omega)⟩⟩
                    case measure=>simp[Go.RowKit.intOf];omega
                  | false =>
                    have hz:sumE (col X k b)=1:=by simp[sumE,hs,bit]
                    have S1:=Kept.mk (sum_any A1 k c1 (col X k b) wr HI.out)
                    rw[hz] at S1
                    have N1:=NO.out (fun h=>by have:=h.2.2.2 b (by rw[hL0.out];exact hbn);omega)
                    clear hs hz
                    generalize sumN (col X k b)=sn at *
                    go_wp2_with (go_at_call 152;refine S1.out.mono ?_;rintro e w' ⟨rfl,rfl⟩)
                    go_ret2
                    exact N1.out _ (by rw[HN.out];exact B.out)
                · have hbn':¬ (b:Int) < l0:=by omega
                  obtain rfl:b=l0:=by omega
                  have ok:newOk k X:=⟨⟨by omega,by omega⟩,⟨by have:=hL0.out;omega,by have:=hL0.out;omega⟩,fun r hr=>by rw[HL.out r hr,hL0.out],fun a ha=>HS.out a (by rw[← hL0.out];exact ha)⟩
                  obtain⟨F,m1,m2⟩:=G.out.mx (m:=k) (by omega) (fun a _=>col_len X k a)
                  have M1:=Kept.mk (show Pc wr F p (newP k X) from⟨ok.wf,by
                    show Mx _ wr F p (X 0).length k _
                    rw[hL0.out]
                    exact m1.congr (fun a i _ hi=>(col_at X k a i hi).symm)⟩)
                  have M2:=Kept.mk m2
                  have OK:=Kept.mk ok
                  clear m1 m2 ok
                  go_wp2
                  go_ret2
                  exact .inr ⟨OK.out,p,F,rfl,M1.out,barOf (by rw[HN.out];exact B.out) [],fun q hq=>.inr (by rw[HN.out];exact M2.out q hq)⟩
end Go.Proofs.YtlkeieoecfkkeaaGreat.Purse
