/-
  Parts laid together: ShaRHash.
-/
import Derived.Test.YtlkeieoecfkkeaaGreatPart42
import Derived.Test.YtlkeieoecfkkeaaGreatPart6
import Derived.Deep.RegionHeld3
import Derived.Deep.AppendLies
set_option maxRecDepth 100000
set_option maxHeartbeats 2000000
namespace Go.Proofs.YtlkeieoecfkkeaaGreat
namespace Sha
open Go.RowKit
def Nv (xs:List Int) (w:World) (e:Ending) (w':World):Prop:=∃ M cap,e=.returned (.slice (some ⟨M,0,none⟩) 32 cap)∧w.heap.size≤M∧32≤cap∧cap≤maxLen∧Rd w' (some ⟨M,0,none⟩) 32 (sha xs)∧Below w.heap.size w w'
theorem bu {w:World}{base:Nat}{e:TypeId}{v:Value}{n:Nat}{xs:List Value}(h:w.ownsRow base e 1 v n xs) (hn:0 < n):∃ g cap,v=.slice (some ⟨g,0,none⟩) n cap∧base≤g∧n≤cap∧cap≤maxLen:=by
 rcases h.2 with⟨_,h0⟩|⟨g,cap,cur,hv,hg,_,h1,h2,_⟩
 ·omega
 ·exact⟨g,cap,hv,hg,h1,h2⟩
theorem QV (m k:Nat) (h:k < 8):(be8 m).take (8 - k)=(be8 m).take (8 - (k+1))++[((m / 256 ^ k % 256:Nat):Int)]:=by
 have l:(be8 m).length=8:=by simp[be8]
 rw[show 8 - k=8 - (k+1)+1 by omega,List.take_succ_eq_append_getElem (by omega)]
 congr 2
 simp only[be8,List.getElem_map,List.getElem_range]
 rw[show 7 - (8 - (k+1))=k by omega]
theorem Dh (s:S8) (m:Nat) (l:List Int):blocks s (m+1) l=mixed (blocks s m l) ((l.drop (64 * m)).take 64):=by
 rw[ug];rfl
theorem jg (A:Option Addr) (n cap:Nat) (xs:List Int) (w:World) (hr:Rd w A n xs) (hn:n < 1073741824) :
    Calls Tryz.prog 75 #[.slice A n cap] w (Nv xs w):=by
  obtain⟨N,hN⟩:∃ N,w.heap.size=N:=⟨_,rfl⟩
  obtain⟨iu,hi,hz0,hz1,hz2⟩:=info_parts ax
  have HI:=ae.mk hi;have Z0:=ae.mk hz0;have Z1:=ae.mk hz1;have Z2:=ae.mk hz2
  clear hi hz0 hz1 hz2
  have hlen:xs.length=n:=hr.1
  have HR:=ae.mk hr
  have Hlen:=ae.mk hlen
  clear hr hlen
  go_enter Tryz.func75,Tryz.ntmps75
  go_wp2_with fail
  refine(Ik w).mono ?_
  rintro e w1 ⟨rfl,b1⟩
  go_wp2_with fail
  refine(Df w1).mono ?_
  rintro e w2 ⟨rfl,b2⟩
  obtain⟨K,hK⟩:∃ K,w2.heap.size=K:=⟨_,rfl⟩
  have hNK:N≤K:=by have:=b1.size;have:=b2.size;omega
  have b3:Below N w w2:=hN▸b1.trans (b2.mono b1.size)
  clear b1 b2
  have B3:=ae.mk b3
  clear b3
  go_wp2_with (first
    | ((with_reducible refine selS 86 (.tmp 3) (.tmp 11) ?_);refine wpList_store_row rfl 86 (.tmp 3) (.tmp 11) rfl K _ rfl rfl 86 _ ((Blk.new_at _ _ _ K hK.symm).alloc _) (by rw[au,uz];kernel_rfl) (by rw[au,uz];rfl) (all_oneCell_toArray (ay _ _)) ?_)
    | ((with_reducible refine selS 87 (.tmp 4) (.tmp 12) ?_);refine wpList_store_row rfl 87 (.tmp 4) (.tmp 12) rfl (K+1) _ rfl rfl 87 _ (show Blk _ (K+1) _ _ from(bar_setRow _ K _).block (K+1) (by simp[hK]) (by simp) |>.trans (Blk.new_at _ _ _ (K+1) (by simp[hK]))) (by rw[au,zM];kernel_rfl) (by rw[au,zM];rfl) (all_oneCell_toArray (ay _ _)) ?_))
  have Hall:ae (∀ z1 z2:Array Value,Blk ((((w2.alloc (.cells z1 86)).alloc (.cells z2 87)).setRow K (arr .u32 KI)).setRow (K+1) (arr .u32 Sha.HI)) K 86 (arr .u32 KI) ∧
      Blk ((((w2.alloc (.cells z1 86)).alloc (.cells z2 87)).setRow K (arr .u32 KI)).setRow (K+1) (arr .u32 Sha.HI)) (K+1) 87 (arr .u32 S0.toL) ∧
      Below N w ((((w2.alloc (.cells z1 86)).alloc (.cells z2 87)).setRow K (arr .u32 KI)).setRow (K+1) (arr .u32 Sha.HI)) ∧
      ((((w2.alloc (.cells z1 86)).alloc (.cells z2 87)).setRow K (arr .u32 KI)).setRow (K+1) (arr .u32 Sha.HI)).heap.size=K+2):=by
    refine⟨fun z1 z2=>⟨?_,?_,?_,?_⟩⟩
    · exact(((Blk.new_at _ _ _ K hK.symm).alloc _).row _).bar (bar_setRow _ _ _) (by simp)
    · exact((Blk.new_at _ _ _ (K+1) (by simp[hK])).bar (bar_setRow _ K _) (by simp)).row _
    · exact below_setRow (below_setRow ((B3.out.alloc (by omega) _).alloc (by simp;omega) _) hNK _) (by omega) _
    · simp[World.setRow,hK]
  refine(pV A n cap xs _ (HR.out.keep (l:=[]) ((barOf (hN▸(Hall.out _ _).2.2.1) [])) (by simp)) (by omega)).mono ?_
  rintro e w4 ⟨v,rfl,ho,b4⟩
  have b5:=(Hall.out _ _).2.2.1.trans (b4.mono (by rw[(Hall.out _ _).2.2.2];omega))
  have kK:=(Hall.out _ _).1.below b4 (by rw[(Hall.out _ _).2.2.2];omega)
  have kH:=(Hall.out _ _).2.1.below b4 (by rw[(Hall.out _ _).2.2.2];omega)
  rw[(Hall.out _ _).2.2.2] at ho
  have s4:=b4.size
  rw[(Hall.out _ _).2.2.2] at s4
  clear b4 Hall B3 hK
  have B5:=ae.mk b5
  have KK:=ae.mk kK
  have KH:=ae.mk kH
  have own4:=ae.mk ho
  clear b5 kK kH ho
  go_wp2_with ((with_reducible refine sel 16 ?_);refine ai rfl (.tmp 14) (.tmp 15) 22 rfl (K+2) 5 Tryz.underlying22 ax v n (ints .u8 xs) rfl (own4.out.alloc _) _ 1 1 [128] rfl (di _ _ (by omega)) (by omega) (by simp;omega) ?_;intro v5 w5 own5 hg5;have b6:=ae.mk (((Below.refl (K+2) w4).alloc (by omega) _).trans (own_below (own4.out.alloc _) hg5 (by simp;omega)));clear hg5 own4)
  obtain⟨g5,c5,rfl,hg5,hc5,hm5⟩:=bu own5.out (by omega)
  go_loopw [5] (fun v wr=>∃ (j g c:Nat),j≤padn n∧v=.slice (some ⟨g,0,none⟩) (n+1+j) c∧c≤9223372036854775807∧ae (wr.ownsRow (K+2) 5 1 (.slice (some ⟨g,0,none⟩) (n+1+j) c) (n+1+j) (ints .u8 (xs++128 :: List.replicate j 0))∧Below (K+2) w4 wr)) (fun v _=>n+1+padn n - lenOf v)
  case atStart=>exact⟨0,g5,c5,Nat.zero_le _,rfl,hm5,⟨by have:=own5.out;rw[← af] at this;exact this,b6.out⟩⟩
  case round =>
    clear own5 b6 hg5 hc5 hm5
    obtain⟨j,g,c,hj,rfl,hc,hk⟩:=hrel
    obtain⟨q,hq⟩:∃ q,n+1+j=q:=⟨_,rfl⟩
    have Hq:=ae.mk hq
    have hq0:1≤q:=by omega
    have hqs:q < 1073741824+128:=by have:=vZ n;omega
    have hp:q % 64≠56→j+1≤padn n:=by unfold padn at hj ⊢;omega
    have hp2:q % 64=56→j=padn n:=by unfold padn at hj ⊢;omega
    rw[hq] at hk ⊢
    obtain⟨own6,b6⟩:=hk.out
    have own6:=ae.mk own6
    have B6:=ae.mk b6
    have sr:=b6.size
    have HP:=ae.mk hp
    have HP2:=ae.mk hp2
    clear hk hq b6 hp hp2
    by_cases h56:q % 64=56
    · have h56':(q:Int) % 64=56:=by omega
      have hjP:=HP2.out h56
      have H56:=ae.mk h56
      clear HP HP2 h56
      go_wp2
      try rw[h56']
      clear h56'
      go_loopw [5,7] (fun v i wr=>∃ (k g c:Nat),k≤8∧v=.slice (some ⟨g,0,none⟩) (q+(8 - k)) c∧i=.int .i64 ((k:Int) - 1)∧c≤9223372036854775807∧ae (wr.ownsRow (K+2) 5 1 (.slice (some ⟨g,0,none⟩) (q+(8 - k)) c) (q+(8 - k)) (ints .u8 ((xs++128 :: List.replicate j 0)++(be8 (n * 8)).take (8 - k)))∧Below (K+2) w4 wr)) (fun _ i _=>(Go.RowKit.intOf i+1).toNat)
      case atStart=>exact⟨8,g,c,Nat.le_refl _,rfl,rfl,hc,⟨by simpa using own6.out,B6.out⟩⟩
      case round =>
        clear own6 B6 hc sr
        obtain⟨k,g,c,hk,rfl,rfl,hc,hr⟩:=hrel
        obtain⟨own6,b6⟩:=hr.out
        have own6:=ae.mk own6
        have B6:=ae.mk b6
        have sr:=b6.size
        clear hr b6
        cases k with
        | zero =>
          rw[show ((0:Nat):Int) - 1=-1 by rfl]
          have hbe:(be8 (n * 8)).take 8=be8 (n * 8):=List.take_of_length_le (by simp[be8])
          have hall:(xs++128 :: List.replicate j 0)++(be8 (n * 8)).take 8=xs++tail xs.length:=by
            rw[hbe,List.append_assoc,Hlen.out,tail,hjP];rfl
          rw[show 8 - 0=8 by rfl,hall] at own6
          obtain⟨T,hT⟩:∃ T,q+8=T:=⟨_,rfl⟩
          have hTl:(xs++tail xs.length).length=T:=by
            rw[List.length_append,pq,Hlen.out,← hT,← Hq.out,hjP];omega
          have hT64:T % 64=0:=by have:=GL xs;omega
          have hTs:T < 1073741824+256:=by omega
          have hT0:0 < T:=by omega
          rw[hT] at own6
          rw[show q+(8 - 0)=T from hT]
          have kh:=KH.out.below B6.out (by omega)
          have KH2:=ae.mk kh
          have HTl:=ae.mk hTl
          clear hbe hall hT hTl kh hjP H56 hj
          go_wp2
          obtain⟨all,hal⟩:∃ all,xs++tail xs.length=all:=⟨_,rfl⟩
          have hby:Bytes all:=by rw[← hal];exact HR.out.2.1.append (uh _)
          rw[hal] at own6 HTl
          have Hal:=ae.mk hal
          have HBY:=ae.mk hby
          have hcT:=bu own6.out hT0
          have hcT2:T≤c:=by obtain⟨_,_,e,_,h,_⟩:=hcT;injection e with _ _ e;omega
          clear hal hby hcT
          go_loopw [8] (fun i wr=>∃ m:Nat,64 * m≤T∧i=.int .i64 ((64 * m:Nat):Int)∧ae (Blk wr (K+1) 87 (arr .u32 (blocks S0 m all).toL))∧ae (wr.ownsRow (K+2) 5 1 (.slice (some ⟨g,0,none⟩) T c) T (ints .u8 all))∧Below (K+1) w4 wr) (fun i _=>T - (Go.RowKit.intOf i).toNat)
          case atStart=>exact⟨0,by omega,rfl,KH2,own6,B6.out.mono (by omega)⟩
          case round =>
            clear KH2 own6 B6 sr
            obtain⟨m,hm,rfl,kh,own6,b6⟩:=hrel
            have sr:=b6.size
            obtain⟨y,hy⟩:∃ y,64 * m=y:=⟨_,rfl⟩
            have Hy:=ae.mk hy
            rw[hy] at hm ⊢
            by_cases hlt:y < T
            · have hyT:y+64≤T:=by omega
              have hl64:(all.drop y).length=T - y:=by rw[List.length_drop,HTl.out]
              have cb:=Nu (K+1) K g y (c - y) (blocks S0 m all) (yG WH _ _) ((all.drop y).take 64) wr.drew ((HBY.out.drop _).take _) (by omega) kh.out.drew ((KK.out.below b6 (by omega)).drew)
                (fun i hi=>by
                  rw[bY hi,jQ]
                  exact wX own6.out (y+i) (by omega))
              rw[← hy,← Dh,hy] at cb
              have Cb:=ae.mk cb
              have B6:=ae.mk b6
              have x1:IntKind.i64.wrap ((y:Int)+64)=(y:Int)+64:=by rw[IntKind.wrap_i64];omega
              have x2:(y:Int)≤(y:Int)+64:=by omega
              have x3:(y:Int)+64≤(c:Int):=by omega
              have x4:((y:Int)+64).toNat=y+64:=by omega
              have x5:y+64 - y=64:=by omega
              have x6:¬ c=y:=by omega
              clear cb b6 hy hl64
              go_wp2
              refine wp_region_still_tail 7 (by kernel_rfl) (by kernel_rfl) ?_
              simp only[List.take_succ_cons,List.take_zero,List.drop_succ_cons,List.drop_zero]
              repeat still_step
              refine wpStill_nil ?_
              change wpList _ _ _ _ _ wr.drew
              clear x1 x2 x3 x4 x5 x6
              go_wp2_with fail
              refine Cb.out.mono ?_
              rintro e w5 ⟨rfl,k5,b5⟩
              have K5:=ae.mk k5
              have O5:=ae.mk (mg own6.out.drew b5 (by simp))
              have B7:=ae.mk (B6.out.trans ((Below.refl (K+1) wr).drew.trans (b5.below (B:=K+1) (by show K+1≤wr.heap.size;omega) (by simp))))
              clear k5 b5 Cb
              go_wp2
              go_roundw
              case rel=>exact⟨m+1,by have:=Hy.out;omega,by have:=Hy.out;go_num,K5,O5,B7.out⟩
              case measure=>simp[Go.RowKit.intOf];omega
            · have hst:blocks S0 m all=st all:=by rw[st,HTl.out,show T / 64=m by omega]
              rw[hst] at kh
              have B6:=ae.mk b6
              clear hst hy b6
              obtain⟨s,hs⟩:∃ s,st all=s:=⟨_,rfl⟩
              have hok:s.ok:=by rw[← hs];exact GK _
              rw[hs] at kh
              have HS:=ae.mk hs
              have HOK:=ae.mk hok
              clear hs hok own6
              go_wp2
              go_loopw [9,10] (fun v i w3=>∃ k:Nat,k≤8∧i=.int .i64 k∧ae (w3.ownsRow (K+2) 5 1 v (4 * k) (ints .u8 (outK s k)))∧ae (Blk w3 (K+1) 87 (arr .u32 s.toL))∧Below (K+1) w4 w3) (fun _ i _=>8 - (Go.RowKit.intOf i).toNat)
              case atStart=>exact⟨0,by omega,rfl,⟨World.ownsRow_nil _ _ _ _⟩,kh,B6.out⟩
              case round =>
                clear kh B6 sr
                obtain⟨k,hk,rfl,ho,kh,b6⟩:=hrel
                have sr:=b6.size
                have B6:=ae.mk b6
                clear b6
                by_cases hlt8:k < 8
                · have k8:(k:Int) < 8:=by omega
                  have c0:=kh.out.at_ k hlt8
                  have hx:=S8.at32 HOK.out k
                  have hsucc:=yJ s k
                  generalize at_ s.toL k=x at *
                  obtain⟨hx0,hx1⟩:=hx
                  have Hsucc:=ae.mk hsucc
                  have u0:IntKind.u8.wrap (x / 16777216)=x / 16777216 % 256:=by rw[IntKind.wrap_u8]
                  have u1:IntKind.u8.wrap (x / 65536)=x / 65536 % 256:=by rw[IntKind.wrap_u8]
                  have u2:IntKind.u8.wrap (x / 256)=x / 256 % 256:=by rw[IntKind.wrap_u8]
                  have u3:IntKind.u8.wrap x=x % 256:=by rw[IntKind.wrap_u8]
                  clear hsucc
                  have ag:u9.ownBlock≠some (K+1):=fun h=>by have:=(ho.out.lt _ h).1;omega
                  have HIo:=HI.out;have Z0o:=Z0.out;have Z1o:=Z1.out;have Z2o:=Z2.out
                  go_wp2_with fail
                  go_region_held3 (fun w'=>w'.cell? ⟨K+1,k,none⟩=some (.int .u32 x))
                    (first
                      | go_keep
                      | (rw[hgrow.cell_far _ (by simp;omega) (Ne.symm ag)];assumption))
                    ((refine step_append_lies _ (by rfl) _ _ _ (by rfl) (K+2) 5 iu _ 1 1 Tryz.underlying22 HIo Z0o Z1o Z2o rfl (by omega) u9 (4 * k) (ints .u8 (outK s k)) (by rfl) ((ho.out.alloc _).drew)
                        ⟨wr.heap.size,0,none⟩ 4 4 [.int .u8 (x / 16777216 % 256),.int .u8 (x / 65536 % 256),.int .u8 (x / 256 % 256),.int .u8 (x % 256)] (by rfl) (by rfl) (World.news_of_block (cs:=#[.int .u8 (x / 16777216 % 256),.int .u8 (x / 65536 % 256),.int .u8 (x / 256 % 256),.int .u8 (x % 256)]) (t:=5) (fr:=(0,0)) (heap_alloc_new wr _)) (by simp[Value.oneCell'])
                        (by omega) (by unfold maxLen;omega) (by omega) (by simp;omega) (wr.heap.size+1) (by simp) ?_;intro gg cg w1 hown1 hgrow hat hlt1))
                  go_wp2
                  go_roundw
                  case rel =>
                    refine⟨k+1,by omega,by go_num,⟨?_⟩,⟨(kh.out.alloc _).drew.grown hgrow (Ne.symm ag)⟩,?_⟩
                    · rw[Hsucc.out,af];exact hown1
                    · exact B6.out.trans (((Below.refl (K+1) wr).alloc (by omega) _).drew.trans ((own_below (ho.out.alloc _).drew hgrow (by simp;omega)).mono (by omega)))
                  case measure=>simp[Go.RowKit.intOf];omega
                · have hk8:k=8:=by omega
                  subst hk8
                  obtain⟨M,cap',rfl,hM,hc32,hmax⟩:=bu ho.out (by omega)
                  go_wp2
                  go_ret
                  have hsha:sha xs=outK s 8:=by rw[SC,← HS.out,← Hal.out];rfl
                  refine⟨M,cap',rfl,by have:=B5.out.size;omega,hc32,hmax,⟨eF _,fU _,Or.inr ⟨M,0,rfl,?_⟩⟩,hN▸(B5.out.trans (B6.out.mono (by omega)))⟩
                  intro i hi
                  rw[hsha,Nat.zero_add]
                  exact wX ho.out i hi
        | succ k =>
          rw[show ((k+1:Nat):Int) - 1=(k:Int) by omega]
          have e8:=QV (n * 8) k (by omega)
          rw[show q+(8 - (k+1))=q+(7 - k) by omega,show 8 - (k+1)=7 - k by omega] at own6
          rw[show q+(8 - (k+1))=q+(7 - k) by omega]
          rw[show 8 - (k+1)=7 - k by omega] at e8
          have E8:=ae.mk e8
          obtain⟨p,hp⟩:∃ p,q+(7 - k)=p:=⟨_,rfl⟩
          have hp1:p < 1073741824+256:=by omega
          have hp0:0 < p:=by omega
          have HPp:=ae.mk hp
          rw[hp] at own6 ⊢
          clear e8 hp
          have hk8:k=0∨k=1∨k=2∨k=3∨k=4∨k=5∨k=6∨k=7:=by omega
          rcases hk8 with rfl|rfl|rfl|rfl|rfl|rfl|rfl|rfl
          · go_wp2_with ((with_reducible refine sel 40 ?_);refine ai rfl (.tmp 32) (.tmp 39) 22 rfl (K+2) 5 Tryz.underlying22 ax (.slice (some ⟨g,0,none⟩) p c) p _ rfl (own6.out.alloc _) _ 1 1 [(n:Int) * 8 % 256] rfl (di _ _ (by omega)) (by omega) (by simp;omega) ?_;intro v7 w7 own7 hg7;have b7:=ae.mk (B6.out.trans (((Below.refl (K+2) wr).alloc (by omega) _).trans (own_below (own6.out.alloc _) hg7 (by simp;omega))));clear hg7)
            obtain⟨g7,c7,rfl,hg7,hc7,hm7⟩:=bu own7.out (by omega)
            go_roundw
            case rel =>
              refine⟨0,g7,c7,by omega,by rw[← HPp.out],by rfl,hm7,⟨?_,b7.out⟩⟩
              have:=own7.out
              rw[← af,List.append_assoc] at this
              rw[E8.out,show q+(8 - 0)=p+1 by rw[← HPp.out]]
              rw[show (((n * 8 / 256 ^ 0 % 256:Nat):Nat):Int)=(n:Int) * 8 % 256 by rw[show (256:Nat) ^ 0=1 from rfl];omega]
              exact this
            case measure=>simp[Go.RowKit.intOf]
          · go_wp2_with ((with_reducible refine sel 40 ?_);refine ai rfl (.tmp 32) (.tmp 39) 22 rfl (K+2) 5 Tryz.underlying22 ax (.slice (some ⟨g,0,none⟩) p c) p _ rfl (own6.out.alloc _) _ 1 1 [(n:Int) * 8 / 256 % 256] rfl (di _ _ (by omega)) (by omega) (by simp;omega) ?_;intro v7 w7 own7 hg7;have b7:=ae.mk (B6.out.trans (((Below.refl (K+2) wr).alloc (by omega) _).trans (own_below (own6.out.alloc _) hg7 (by simp;omega))));clear hg7)
            obtain⟨g7,c7,rfl,hg7,hc7,hm7⟩:=bu own7.out (by omega)
            go_roundw
            case rel =>
              refine⟨1,g7,c7,by omega,by rw[← HPp.out],by rfl,hm7,⟨?_,b7.out⟩⟩
              have:=own7.out
              rw[← af,List.append_assoc] at this
              rw[E8.out,show q+(8 - 1)=p+1 by rw[← HPp.out]]
              rw[show (((n * 8 / 256 ^ 1 % 256:Nat):Nat):Int)=(n:Int) * 8 / 256 % 256 by rw[show (256:Nat) ^ 1=256 from rfl];omega]
              exact this
            case measure=>simp[Go.RowKit.intOf]
          · go_wp2_with ((with_reducible refine sel 40 ?_);refine ai rfl (.tmp 32) (.tmp 39) 22 rfl (K+2) 5 Tryz.underlying22 ax (.slice (some ⟨g,0,none⟩) p c) p _ rfl (own6.out.alloc _) _ 1 1 [(n:Int) * 8 / 65536 % 256] rfl (di _ _ (by omega)) (by omega) (by simp;omega) ?_;intro v7 w7 own7 hg7;have b7:=ae.mk (B6.out.trans (((Below.refl (K+2) wr).alloc (by omega) _).trans (own_below (own6.out.alloc _) hg7 (by simp;omega))));clear hg7)
            obtain⟨g7,c7,rfl,hg7,hc7,hm7⟩:=bu own7.out (by omega)
            go_roundw
            case rel =>
              refine⟨2,g7,c7,by omega,by rw[← HPp.out],by rfl,hm7,⟨?_,b7.out⟩⟩
              have:=own7.out
              rw[← af,List.append_assoc] at this
              rw[E8.out,show q+(8 - 2)=p+1 by rw[← HPp.out]]
              rw[show (((n * 8 / 256 ^ 2 % 256:Nat):Nat):Int)=(n:Int) * 8 / 65536 % 256 by rw[show (256:Nat) ^ 2=65536 from rfl];omega]
              exact this
            case measure=>simp[Go.RowKit.intOf]
          · go_wp2_with ((with_reducible refine sel 40 ?_);refine ai rfl (.tmp 32) (.tmp 39) 22 rfl (K+2) 5 Tryz.underlying22 ax (.slice (some ⟨g,0,none⟩) p c) p _ rfl (own6.out.alloc _) _ 1 1 [(n:Int) * 8 / 16777216 % 256] rfl (di _ _ (by omega)) (by omega) (by simp;omega) ?_;intro v7 w7 own7 hg7;have b7:=ae.mk (B6.out.trans (((Below.refl (K+2) wr).alloc (by omega) _).trans (own_below (own6.out.alloc _) hg7 (by simp;omega))));clear hg7)
            obtain⟨g7,c7,rfl,hg7,hc7,hm7⟩:=bu own7.out (by omega)
            go_roundw
            case rel =>
              refine⟨3,g7,c7,by omega,by rw[← HPp.out],by rfl,hm7,⟨?_,b7.out⟩⟩
              have:=own7.out
              rw[← af,List.append_assoc] at this
              rw[E8.out,show q+(8 - 3)=p+1 by rw[← HPp.out]]
              rw[show (((n * 8 / 256 ^ 3 % 256:Nat):Nat):Int)=(n:Int) * 8 / 16777216 % 256 by rw[show (256:Nat) ^ 3=16777216 from rfl];omega]
              exact this
            case measure=>simp[Go.RowKit.intOf]
          · go_wp2_with ((with_reducible refine sel 40 ?_);refine ai rfl (.tmp 32) (.tmp 39) 22 rfl (K+2) 5 Tryz.underlying22 ax (.slice (some ⟨g,0,none⟩) p c) p _ rfl (own6.out.alloc _) _ 1 1 [(n:Int) * 8 / 4294967296] rfl (di _ _ (by omega)) (by omega) (by simp;omega) ?_;intro v7 w7 own7 hg7;have b7:=ae.mk (B6.out.trans (((Below.refl (K+2) wr).alloc (by omega) _).trans (own_below (own6.out.alloc _) hg7 (by simp;omega))));clear hg7)
            obtain⟨g7,c7,rfl,hg7,hc7,hm7⟩:=bu own7.out (by omega)
            go_roundw
            case rel =>
              refine⟨4,g7,c7,by omega,by rw[← HPp.out],by rfl,hm7,⟨?_,b7.out⟩⟩
              have:=own7.out
              rw[← af,List.append_assoc] at this
              rw[E8.out,show q+(8 - 4)=p+1 by rw[← HPp.out]]
              rw[show (((n * 8 / 256 ^ 4 % 256:Nat):Nat):Int)=(n:Int) * 8 / 4294967296 by rw[show (256:Nat) ^ 4=4294967296 from rfl];omega]
              exact this
            case measure=>simp[Go.RowKit.intOf]
          · go_wp2_with ((with_reducible refine sel 40 ?_);refine ai rfl (.tmp 32) (.tmp 39) 22 rfl (K+2) 5 Tryz.underlying22 ax (.slice (some ⟨g,0,none⟩) p c) p _ rfl (own6.out.alloc _) _ 1 1 [(n:Int) * 8 / 1099511627776] rfl (di _ _ (by omega)) (by omega) (by simp;omega) ?_;intro v7 w7 own7 hg7;have b7:=ae.mk (B6.out.trans (((Below.refl (K+2) wr).alloc (by omega) _).trans (own_below (own6.out.alloc _) hg7 (by simp;omega))));clear hg7)
            obtain⟨g7,c7,rfl,hg7,hc7,hm7⟩:=bu own7.out (by omega)
            go_roundw
            case rel =>
              refine⟨5,g7,c7,by omega,by rw[← HPp.out],by rfl,hm7,⟨?_,b7.out⟩⟩
              have:=own7.out
              rw[← af,List.append_assoc] at this
              rw[E8.out,show q+(8 - 5)=p+1 by rw[← HPp.out]]
              rw[show (((n * 8 / 256 ^ 5 % 256:Nat):Nat):Int)=(n:Int) * 8 / 1099511627776 by rw[show (256:Nat) ^ 5=1099511627776 from rfl];omega]
              exact this
            case measure=>simp[Go.RowKit.intOf]
          · go_wp2_with ((with_reducible refine sel 40 ?_);refine ai rfl (.tmp 32) (.tmp 39) 22 rfl (K+2) 5 Tryz.underlying22 ax (.slice (some ⟨g,0,none⟩) p c) p _ rfl (own6.out.alloc _) _ 1 1 [(n:Int) * 8 / 281474976710656] rfl (di _ _ (by omega)) (by omega) (by simp;omega) ?_;intro v7 w7 own7 hg7;have b7:=ae.mk (B6.out.trans (((Below.refl (K+2) wr).alloc (by omega) _).trans (own_below (own6.out.alloc _) hg7 (by simp;omega))));clear hg7)
            obtain⟨g7,c7,rfl,hg7,hc7,hm7⟩:=bu own7.out (by omega)
            go_roundw
            case rel =>
              refine⟨6,g7,c7,by omega,by rw[← HPp.out],by rfl,hm7,⟨?_,b7.out⟩⟩
              have:=own7.out
              rw[← af,List.append_assoc] at this
              rw[E8.out,show q+(8 - 6)=p+1 by rw[← HPp.out]]
              rw[show (((n * 8 / 256 ^ 6 % 256:Nat):Nat):Int)=(n:Int) * 8 / 281474976710656 by rw[show (256:Nat) ^ 6=281474976710656 from rfl];omega]
              exact this
            case measure=>simp[Go.RowKit.intOf]
          · go_wp2_with ((with_reducible refine sel 40 ?_);refine ai rfl (.tmp 32) (.tmp 39) 22 rfl (K+2) 5 Tryz.underlying22 ax (.slice (some ⟨g,0,none⟩) p c) p _ rfl (own6.out.alloc _) _ 1 1 [(n:Int) * 8 / 72057594037927936] rfl (di _ _ (by omega)) (by omega) (by simp;omega) ?_;intro v7 w7 own7 hg7;have b7:=ae.mk (B6.out.trans (((Below.refl (K+2) wr).alloc (by omega) _).trans (own_below (own6.out.alloc _) hg7 (by simp;omega))));clear hg7)
            obtain⟨g7,c7,rfl,hg7,hc7,hm7⟩:=bu own7.out (by omega)
            go_roundw
            case rel =>
              refine⟨7,g7,c7,by omega,by rw[← HPp.out],by rfl,hm7,⟨?_,b7.out⟩⟩
              have:=own7.out
              rw[← af,List.append_assoc] at this
              rw[E8.out,show q+(8 - 7)=p+1 by rw[← HPp.out]]
              rw[show (((n * 8 / 256 ^ 7 % 256:Nat):Nat):Int)=(n:Int) * 8 / 72057594037927936 by rw[show (256:Nat) ^ 7=72057594037927936 from rfl];omega]
              exact this
            case measure=>simp[Go.RowKit.intOf]
    · have h56':¬ ((q:Int) % 64=56):=by omega
      go_wp2_with ((with_reducible refine sel 23 ?_);refine ai rfl (.tmp 21) (.tmp 22) 22 rfl (K+2) 5 Tryz.underlying22 ax (.slice (some ⟨g,0,none⟩) q c) q _ rfl (own6.out.alloc _) _ 1 1 [0] rfl (di _ _ (by omega)) (by omega) (by simp;omega) ?_;intro v7 w7 own7 hg7;have b7:=ae.mk (B6.out.trans (((Below.refl (K+2) wr).alloc (by omega) _).trans (own_below (own6.out.alloc _) hg7 (by simp;omega))));clear hg7)
      obtain⟨g7,c7,rfl,hg7,hc7,hm7⟩:=bu own7.out (by omega)
      go_roundw
      case rel =>
        refine⟨j+1,g7,c7,HP.out h56,by rw[← Hq.out];rfl,hm7,⟨?_,b7.out⟩⟩
        have:=own7.out
        rw[← af,List.append_assoc,List.cons_append,← List.replicate_succ'] at this
        rw[show n+1+(j+1)=q+1 by rw[← Hq.out];omega]
        exact this
      case measure=>simp[lenOf];have:=Hq.out;have:=HP.out h56;omega
end Sha
end Go.Proofs.YtlkeieoecfkkeaaGreat
