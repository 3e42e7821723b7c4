/-
  Parts laid together: WireMem WireSize WireInto WireFail WirePut WireNum WireNewEnc WireDoneEnc FrameCells WireNewDec WireFst WireDNum FrameRHead WireDEnd WireREnc WireREnc2 WireRDec WireRDone.
-/
import Derived.Test.YtlkeieoecfkkeaaGreatPart7
import Derived.Test.YtlkeieoecfkkeaaGreatPart2
import Derived.Test.YtlkeieoecfkkeaaGreatPart6
import Derived.Deep.RegionHeld3
import Derived.Deep.AppendLies
import Derived.Laws.BitsAllLaws
import Derived.Test.YtlkeieoecfkkeaaGreatPart3
import Derived.Deep.QuietTactic
import Derived.BigQuiet
import Derived.StillTailTactics
set_option maxRecDepth 100000
set_option maxHeartbeats 2000000
namespace Go.Proofs.YtlkeieoecfkkeaaGreat
namespace Wire
open Go.RowKit Sha
theorem RG (n s:Int) (h1:1≤s) (h8:s≤8) (h0:0≤n) (hm:n≤4611686018427387904):(n / 2 ^ (8 * s).toNat == 0)=fits n s:=by
 obtain⟨k,rfl⟩:∃ k:Nat,s=k:=⟨s.toNat,by omega⟩
 obtain⟨m,rfl⟩:∃ m:Nat,n=m:=⟨n.toNat,by omega⟩
 have e:(8 * (k:Int)).toNat=8 * k:=by omega
 rw[e]
 have h2:((m:Int) / 2 ^ (8 * k))=((m / 256 ^ k:Nat):Int):=by
  rw[← DX];push_cast;rfl
 rw[h2]
 unfold fits
 by_cases h:m < 256 ^ k
 ·rw[Nat.div_eq_of_lt h]
  have h3:(m:Int) < 256 ^ (k:Int).toNat:=by
   have:=Int.ofNat_lt.2 h
   rw[Int.natCast_pow] at this
   exact this
  rw[decide_eq_true (show 1≤(k:Int)∧(k:Int)≤8∧0≤(m:Int)∧(m:Int)≤4611686018427387904∧(m:Int) < 256 ^ (k:Int).toNat from⟨h1,h8,h0,hm,h3⟩)]
  rfl
 ·have h4:0 < m / 256 ^ k:=Nat.div_pos (by omega) (Nat.pow_pos (by omega))
  have h3:¬ (m:Int) < 256 ^ (k:Int).toNat:=by
   intro hc
   apply h
   apply Int.ofNat_lt.1
   rw[Int.natCast_pow]
   exact hc
  rw[decide_eq_false (show ¬ (1≤(k:Int)∧(k:Int)≤8∧0≤(m:Int)∧(m:Int)≤4611686018427387904∧(m:Int) < 256 ^ (k:Int).toNat) from fun hc=>h3 hc.2.2.2.2)]
  generalize m / 256 ^ k=q at h4 ⊢
  exact beq_eq_false_iff_ne.2 (by omega)
def En (T:TypeId) (w:World) (F:List Nat) (e:Nat) (st:St):Prop:=∃ v,Blk w e T #[v,.int .i64 st.1]∧w.ownsRow 0 5 1 v st.2.length (ints .u8 st.2)∧F=e :: v.ownBlock.toList
theorem En.lt {T:TypeId}{w:World}{F:List Nat}{e:Nat}{st:St}(h:En T w F e st):∀ k∈F,k < w.heap.size:=by
 obtain⟨v,h1,h2,rfl⟩:=h
 intro k hk
 rcases List.mem_cons.1 hk with rfl|hk
 ·exact h1.lt
 ·exact NY h2 k hk
theorem En.keep {T:TypeId}{w w':World}{F G:List Nat}{e:Nat}{st:St}(h:En T w F e st) (b:Bar G w w') (d:Disj F G):En T w' F e st:=by
 obtain⟨v,h1,h2,rfl⟩:=h
 exact⟨v,h1.bar b (d _ (List.mem_cons_self ..)),own_keep h2 b (fun g hg=>d g (List.mem_cons_of_mem _ hg)),rfl⟩
theorem En.below {T:TypeId}{w w':World}{F:List Nat}{e:Nat}{st:St}(h:En T w F e st) (b:Below w.heap.size w w'):En T w' F e st:=h.keep (barOf b []) (fun _ _=>by simp)
theorem xu {T:TypeId}(hT:5≠T) {wr wm w1:World}{e:Nat}{v v':Value}{err:Int}{n:Nat}{ys:List Int}(hb:Blk wr e T #[v,.int .i64 err]) (hm:Bar [] wr wm) (hg:wm.grownBy w1 v.ownBlock) (hfar:v.ownBlock≠some e)
  (ho:w1.ownsRow 0 5 1 v' n (ints .u8 ys)) (hat:v'.ownBlock=v.ownBlock∨∃ g,v'.ownBlock=some g∧wr.heap.size≤g) :
  En T (w1.setCell ⟨e,0,none⟩ v') (e :: v'.ownBlock.toList) e (err,ys)∧Fp (e :: v.ownBlock.toList) (e :: v'.ownBlock.toList) wr (w1.setCell ⟨e,0,none⟩ v'):=by
 obtain rfl:n=ys.length:=by have:=ho.1;rw[ints_len] at this;omega
 have b1:Blk w1 e T #[v,.int .i64 err]:=(hb.bar hm (by simp)).grown hg (Ne.symm hfar)
 have hne:v'.ownBlock≠some e:=bK ho b1 hT
 refine⟨⟨v',b1.set_ 0 _,own_keep ho ((Bar.refl [e] w1).setCell (by simp) _) (fun g hg2 hm2=>hne ?_),rfl⟩,?_,?_⟩
 ·simp at hm2 hg2;rw[hg2,hm2]
 ·refine Bar.setCell ?_ (.inl (by simp)) _
  exact(hm.mono (l':=e :: v.ownBlock.toList) (by simp)).grown hg (fun k hk=>.inl (by simp[hk]))
 ·intro k hk
  rcases List.mem_cons.1 hk with rfl|hk
  ·exact .inl (List.mem_cons_self ..)
  ·rcases hat with hat|⟨g,hat,hge⟩
   ·rw[hat] at hk;exact .inl (List.mem_cons_of_mem _ hk)
   ·rw[hat] at hk;simp at hk;subst hk;exact .inr hge
theorem Oo (n j:Nat):IntKind.u8.wrap ((n:Int) / 2 ^ (8 * (j:Int)).toNat)=((n / 256 ^ j % 256:Nat):Int):=by
 rw[IntKind.wrap_u8,show (8 * (j:Int)).toNat=8 * j by omega,← DX,Int.natCast_emod,Int.natCast_ediv,Int.natCast_pow]
 rfl
theorem FM (xs:List Int) (k:Nat) (hk:k < xs.length):val (xs.take (k+1))=val (xs.take k) * 256+(at_ xs k).toNat:=by
 rw[List.take_succ_eq_append_getElem hk,val,Bi]
 simp only[valA]
 rw[show at_ xs k=xs[k] by simp[at_,hk]]
 rfl
theorem iM (xs:List Int) (hb:Bytes xs) (k:Nat) (hk:k≤xs.length):val (xs.take k) < 256 ^ k:=by
 have:=yt (xs.take k) (hb.take k)
 rwa [List.length_take,Nat.min_eq_left hk] at this
theorem Oq (v:Nat) (x:Int) (hx:0≤x∧x≤255) (hv:v < 72057594037927936):bits .or .u64 ((v:Int) * 256) x=((v * 256+x.toNat:Nat):Int):=by
 rw[u64_or _ _ (by omega) (by omega) (by omega) (by omega)]
 congr 1
 rw[show ((v:Int) * 256).toNat=v * 256 by omega]
 exact nat_join 8 (v * 256) x.toNat (by omega) (by omega)
def De (T:TypeId) (w:World) (d:Nat) (G:List Nat) (st:St):Prop :=
 (∀ k∈G,k < w.heap.size)∧∃ A c,Blk w d T #[.slice A st.2.length c,.int .i64 st.1]∧Rd w A st.2.length st.2∧st.2.length≤c∧c≤9223372036854775807∧∀ F:List Nat,Disj G F→Off A st.2.length F
theorem De.lt {T:TypeId}{w:World}{d:Nat}{G:List Nat}{st:St}(h:De T w d G st):d < w.heap.size:=by
 obtain⟨-,A,c,h1,-⟩:=h
 exact h1.lt
theorem De.lts {T:TypeId}{w:World}{d:Nat}{G:List Nat}{st:St}(h:De T w d G st):∀ k∈d :: G,k < w.heap.size:=fun k hk=>by
 rcases List.mem_cons.1 hk with rfl|hk
 ·exact h.lt
 ·exact h.1 k hk
theorem De.bytes {T:TypeId}{w:World}{d:Nat}{G:List Nat}{st:St}(h:De T w d G st):Bytes st.2:=by
 obtain⟨-,A,c,h1,h2,-⟩:=h
 exact h2.2.1
theorem De.keep {T:TypeId}{w w':World}{d:Nat}{G:List Nat}{st:St}{F:List Nat}(h:De T w d G st) (b:Bar F w w') (hd:d∉F) (hg:Disj G F):De T w' d G st:=by
 obtain⟨h0,A,c,h1,h2,h3,h4,h5⟩:=h
 exact⟨fun k hk=>Nat.lt_of_lt_of_le (h0 k hk) b.size,A,c,h1.bar b hd,h2.far b (h5 F hg),h3,h4,h5⟩
theorem De.below {T:TypeId}{w w':World}{d:Nat}{G:List Nat}{st:St}(h:De T w d G st) (b:Below w.heap.size w w'):De T w' d G st:=h.keep (barOf b []) (by simp) (fun _ _=>by simp)
theorem De.set {T:TypeId}{w w':World}{d:Nat}{G:List Nat}{st':St}{A:Option Addr}{n c:Nat}(hG:∀ k∈G,k < w.heap.size) (hd:d∉G) (hn:n=st'.2.length) (hb:Blk w' d T #[.slice A n c,.int .i64 st'.1]) (hbar:Bar [d] w w') (hr:Rd w A n st'.2) (hc:n≤c) (hm:c≤9223372036854775807) (ho:∀ F:List Nat,Disj G F→Off A n F):De T w' d G st':=by
 subst hn
 exact⟨fun k hk=>Nat.lt_of_lt_of_le (hG k hk) hbar.size,A,c,hb,hr.far hbar (ho _ (fun k hk=>by simp;rintro rfl;exact hd hk)),hc,hm,ho⟩
theorem jH (xs:List Int) (s:Nat) (h1:1≤s) (h8:s≤8) (h:s≤xs.length∧val (xs.take s)≤4611686018427387904):decNum (0,xs) s=(((val (xs.take s):Nat):Int),(0,xs.drop s)):=by
 unfold decNum
 simp only[if_true,Int.toNat_natCast]
 rw[if_pos (by omega),if_pos h]
theorem Ag (xs:List Int) (s:Nat) (h1:1≤s) (h8:s≤8) (h:¬ (s≤xs.length∧val (xs.take s)≤4611686018427387904)):decNum (0,xs) s=(0,(2,xs)):=by
 unfold decNum
 simp only[if_true,Int.toNat_natCast]
 rw[if_pos (by omega),if_neg h]
theorem Ah {w:World}{A:Option Addr}{n:Nat}{xs:List Int}(r:Rd w A n xs):∃ G:List Nat,(∀ k∈G,k < w.heap.size)∧∀ F:List Nat,Disj G F→Off A n F:=by
 rcases r.2.2 with h0|⟨b,o,rfl,hc⟩
 ·exact⟨[],by simp,fun F _=>.inl h0⟩
 ·by_cases h0:n=0
  ·exact⟨[],by simp,fun F _=>.inl h0⟩
  ·exact⟨[b],by
    intro k hk
    rw[List.mem_singleton] at hk
    subst hk
    exact World.block_lt_of_cell? _ _ (hc 0 (by omega)),fun F hF=>.inr ⟨b,o,rfl,hF b (by simp)⟩⟩
theorem FO {w w':World}{l:List Nat}{b i:Nat}{v:Value}(h:w.cell? ⟨b,i,none⟩=some v) (k:Bar l w w') (hb:b∉l):w'.cell? ⟨b,i,none⟩=some v:=by
 rw[← h];exact World.cell?_of_block (k.block b (World.block_lt_of_cell? _ _ h) hb)
theorem jI (s:Int) (w:World):Calls Tryz.prog 121 #[.int .i64 s] w fun e w'=>e=.returned (.bool (decide (1≤s∧s≤8)))∧w=w':=by
 by_cases h1:1≤s
 ·by_cases h2:s≤8
  ·have h3:decide (1≤s∧s≤8)=true:=by simp[h1,h2]
   rw[h3]
   clear h3
   go_enter Tryz.func121,Tryz.ntmps121
   go_wp2
   go_ret
   exact⟨rfl,rfl⟩
  ·have h3:decide (1≤s∧s≤8)=false:=by simp[h1,h2]
   have h4:decide (s≤8)=false:=by simp[h2]
   rw[h3]
   clear h3
   go_enter Tryz.func121,Tryz.ntmps121
   go_wp2
   go_ret
   exact⟨rfl,rfl⟩
 ·have h3:decide (1≤s∧s≤8)=false:=by simp[h1]
  have h4:decide (1≤s)=false:=by simp[h1]
  rw[h3]
  clear h3
  go_enter Tryz.func121,Tryz.ntmps121
  go_wp2
  go_ret
  exact⟨rfl,rfl⟩
theorem oH (n s:Int) (w:World) (h1:1≤s) (h8:s≤8):Calls Tryz.prog 203 #[.int .i64 n,.int .i64 s] w fun e w'=>e=.returned (.bool (fits n s))∧w=w':=by
 by_cases h2:0≤n
 ·by_cases h3:n≤4611686018427387904
  ·have hw:IntKind.i64.wrap (8 * s)=8 * s:=by rw[IntKind.wrap_i64];omega
   have HS:=ae.mk (RG n s h1 h8 h2 h3)
   go_enter Tryz.func203,Tryz.ntmps203
   go_wp2
   go_ret
   exact⟨by rw[← HS.out];rfl,rfl⟩
  ·have hf:fits n s=false:=decide_eq_false (fun hc=>h3 hc.2.2.2.1)
   have h4:decide (n≤4611686018427387904)=false:=by simpa using h3
   rw[hf]
   clear hf
   go_enter Tryz.func203,Tryz.ntmps203
   go_wp2
   go_ret
   exact⟨rfl,rfl⟩
 ·have hf:fits n s=false:=decide_eq_false (fun hc=>h2 hc.2.2.1)
  have h4:decide (0≤n)=false:=by simpa using h2
  rw[hf]
  clear hf
  go_enter Tryz.func203,Tryz.ntmps203
  go_wp2
  go_ret
  exact⟨rfl,rfl⟩
theorem FQ (w:World) (F:List Nat) (e:Nat) (st:St) (err:Int) (h:En 301 w F e st):Calls Tryz.prog 204 #[.pointer (some ⟨e,0,none⟩),.int .i64 err] w fun x w'=>x=.returned (.tuple #[])∧En 301 w' [e] e (err,[])∧Fp F [e] w w':=by
 obtain⟨v,h1,h2,rfl⟩:=h
 have c0:=h1.cell 0
 have c1:=h1.cell 1
 have z0:=h1.frozen 0
 have z1:=h1.frozen 1
 have H1:=ae.mk h1
 clear h1 h2
 go_enter Tryz.func204,Tryz.ntmps204
 go_wp2
 go_end0
 exact⟨rfl,⟨_,(H1.out.set_ 0 _).set_ 1 _,World.ownsRow_nil _ _ _ _,rfl⟩,((Bar.refl _ _).setCell (by simp) _).setCell (by simp) _,fun k hk=>.inl (by simp at hk;simp[hk])⟩
theorem put_any (w:World) (F:List Nat) (e n s:Nat) (xs:List Int) (h:En 301 w F e (0,xs)) (hs:s≤8) (hl:xs.length≤2147483648) :
    Calls Tryz.prog 205 #[.pointer (some ⟨e,0,none⟩),.int .i64 n,.int .i64 s] w fun x w'=>x=.returned (.tuple #[])∧∃ F',En 301 w' F' e (0,xs++be n s)∧Fp F F' w w':=by
  have HE:=ae.mk h
  clear h
  go_enter Tryz.func205,Tryz.ntmps205
  go_wp2
  go_loopw [6] (fun i wr=>∃ (k:Nat) (cur:List Int) (G:List Nat),k≤s∧i=.int .i64 ((k:Int) - 1)∧ae (cur++be n k=xs++be n s)∧ae (En 301 wr G e (0,cur))∧ae (Fp F G w wr)) (fun i _=>(Go.RowKit.intOf i+1).toNat)
  case atStart=>exact⟨s,xs,F,by omega,by go_num,⟨rfl⟩,HE,⟨Fp.refl _ _⟩⟩
  case round =>
    clear HE
    obtain⟨k,cur,G,hk,rfl,HC,HE,HF⟩:=hrel
    by_cases h0:k=0
    · subst h0
      go_wp2
      go_end0
      have hc:=HC.out
      simp only[be,List.append_nil] at hc
      exact⟨rfl,G,hc▸HE.out,HF.out⟩
    · obtain⟨j,rfl⟩:∃ j,k=j+1:=⟨k - 1,by omega⟩
      obtain⟨v,hb,ho,hG⟩:=HE.out
      have c0:=hb.cell 0
      rw[show (#[v,Value.int IntKind.i64 0]:Array Value)[0]?=some v from rfl] at c0
      have z0:=hb.frozen 0
      obtain⟨b,hbb⟩:∃ b:Int,((n / 256 ^ j % 256:Nat):Int)=b:=⟨_,rfl⟩
      have hB:=Oo n j
      have hm:IntKind.i64.wrap (8 * (j:Int))=8 * j:=by rw[IntKind.wrap_i64];omega
      rw[hbb] at hB
      have hbe:be n (j+1)=b :: be n j:=by rw[be,hbb]
      have HBE:=ae.mk hbe
      have hfar:=bK ho hb (by decide)
      have hlt:=hb.lt
      have hsz:cur.length≤xs.length+s:=by
        have:=congrArg List.length HC.out
        simp only[List.length_append,aJ] at this
        omega
      have HO:=ae.mk ho;have HBk:=ae.mk hb
      clear hbb hbe hb ho
      obtain⟨iu,hi,hz0,hz1,hz2⟩:=info_parts ax
      go_wp2_with fail
      have T1:(wr.alloc (Obj.cells #[Value.int IntKind.u8 b] 5)).drew.frozen? { block:=e,off:=0 }=false:=(HBk.out.alloc _).drew.frozen 0
      have T2:(wr.alloc (Obj.cells #[Value.int IntKind.u8 b] 5)).drew.cell? { block:=e,off:=0 }=some v:=(HBk.out.alloc _).drew.cell 0
      go_region_law
        ((refine step_append_lies _ (by rfl) _ _ _ (by rfl) 0 5 iu _ 1 1 Tryz.underlying22 hi hz0 hz1 hz2 rfl (by omega) v cur.length (ints .u8 cur) (by rfl) ((HO.out.alloc _).drew)
            ⟨wr.heap.size,0,none⟩ 1 1 [.int .u8 b] (by rfl) (by rfl) (World.news_of_block (cs:=#[.int .u8 b]) (t:=5) (fr:=(0,0)) (heap_alloc_new wr _)) (by simp[Value.oneCell'])
            (by omega) (by unfold maxLen;omega) (by omega) (by simp) (wr.heap.size+1) (by simp) ?_;intro gg cg w1 hown1 hgrow hat hlt1;have U0:=(((HBk.out.alloc (.cells #[.int .u8 b] 5)).drew.grown hgrow (Ne.symm hfar)).cell 0);have U1:=(((HBk.out.alloc (.cells #[.int .u8 b] 5)).drew.grown hgrow (Ne.symm hfar)).frozen 0)))
      all_goals
        have hst:=xu (by decide) HBk.out ((Bar.refl [] wr).alloc (.cells #[.int .u8 b] 5)).drew hgrow hfar (ys:=cur++[b]) (by rw[af];exact hown1) (by
          rcases hat with h|h
          · exact .inl h.symm
          · exact .inr ⟨gg,rfl,by omega⟩)
        have HST:=ae.mk hst
        clear hst hgrow hown1 U0 U1 T1 T2
        subst hG
        go_wp2
        go_roundw
        case rel =>
          refine⟨j,cur++[b],_,by omega,by go_num,⟨?_⟩,⟨HST.out.1⟩,⟨HF.out.trans HST.out.2⟩⟩
          have:=HC.out
          rw[HBE.out] at this
          rw[List.append_assoc]
          exact this
        case measure=>simp[Go.RowKit.intOf]
theorem aP (w:World) (F:List Nat) (e:Nat) (n s:Int) (st:St) (h:En 301 w F e st) (hl:st.2.length≤2147483648) :
  Calls Tryz.prog 164 #[.pointer (some ⟨e,0,none⟩),.int .i64 n,.int .i64 s] w fun x w'=>x=.returned (.tuple #[])∧∃ F',En 301 w' F' e (encNum st n s)∧Fp F F' w w':=by
 obtain⟨err,xs⟩:=st
 have HE:=ae.mk h
 have c1:w.cell? ⟨e,1,none⟩=some (.int .i64 err):=by obtain⟨v,hb,_⟩:=h;exact hb.cell 1
 clear h
 by_cases he:err=0
 ·subst he
  by_cases hs:1≤s∧s≤8
  ·have ci:=ae.mk fun w=>jI s w
   rw[decide_eq_true hs] at ci
   cases hf:fits n s with
   | true =>
    have hg:=ae.mk fun w=>oH n s w hs.1 hs.2
    rw[hf] at hg
    have h0:0≤n:=(qo hf).2.2.2.2
    have HR:=ae.mk (show encNum (0,xs) n s=(0,xs++be n.toNat s.toNat) by unfold encNum;simp[hf])
    have hp:=ae.mk (put_any w F e n.toNat s.toNat xs HE.out (by omega) hl)
    rw[Int.toNat_of_nonneg h0,Int.toNat_of_nonneg (show 0≤s by omega)] at hp
    clear hf HE
    go_enter Tryz.func164,Tryz.ntmps164
    go_wp2_with (first
     | (go_at_call 121;refine(ci.out _).mono ?_;rintro x w' ⟨rfl,rfl⟩)
     | (go_at_call 203;refine(hg.out _).mono ?_;rintro x w' ⟨rfl,rfl⟩))
    refine hp.out.mono ?_
    rintro x w' ⟨rfl,F',h1,h2⟩
    rw[← HR.out] at h1
    have H1:=ae.mk h1;have H2:=ae.mk h2
    clear h1 h2
    go_wp2
    (first|go_end0|((try simp only[Exit.inBlock,Exit.then]);refine bodyPost_ret (results_none rfl _ _ _) rfl ?_))
    exact⟨rfl,F',H1.out,H2.out⟩
   | false =>
    have hg:=ae.mk fun w=>oH n s w hs.1 hs.2
    rw[hf] at hg
    have HR:=ae.mk (show encNum (0,xs) n s=(1,[]) by unfold encNum;simp[hf])
    have hp:=ae.mk (FQ w F e (0,xs) 1 HE.out)
    clear hf HE
    go_enter Tryz.func164,Tryz.ntmps164
    go_wp2_with (first
     | (go_at_call 121;refine(ci.out _).mono ?_;rintro x w' ⟨rfl,rfl⟩)
     | (go_at_call 203;refine(hg.out _).mono ?_;rintro x w' ⟨rfl,rfl⟩))
    refine hp.out.mono ?_
    rintro x w' ⟨rfl,h1,h2⟩
    rw[← HR.out] at h1
    have H1:=ae.mk h1;have H2:=ae.mk h2
    clear h1 h2
    go_wp2
    (first|go_end0|((try simp only[Exit.inBlock,Exit.then]);refine bodyPost_ret (results_none rfl _ _ _) rfl ?_))
    exact⟨rfl,_,H1.out,H2.out⟩
  ·have ci:=ae.mk fun w=>jI s w
   rw[decide_eq_false hs] at ci
   have hf:fits n s=false:=decide_eq_false (fun hc=>hs ⟨hc.1,hc.2.1⟩)
   have HR:=ae.mk (show encNum (0,xs) n s=(1,[]) by unfold encNum;simp[hf])
   have hp:=ae.mk (FQ w F e (0,xs) 1 HE.out)
   clear hf HE
   go_enter Tryz.func164,Tryz.ntmps164
   go_wp2_with (go_at_call 121;refine(ci.out _).mono ?_;rintro x w' ⟨rfl,rfl⟩)
   refine hp.out.mono ?_
   rintro x w' ⟨rfl,h1,h2⟩
   rw[← HR.out] at h1
   have H1:=ae.mk h1;have H2:=ae.mk h2
   clear h1 h2
   go_wp2
   (first|go_end0|((try simp only[Exit.inBlock,Exit.then]);refine bodyPost_ret (results_none rfl _ _ _) rfl ?_))
   exact⟨rfl,_,H1.out,H2.out⟩
 ·have HR:=ae.mk (show encNum (err,xs) n s=(err,xs) by unfold encNum;simp[he])
  have he2:(err != 0)=true:=by simpa using he
  go_enter Tryz.func164,Tryz.ntmps164
  go_wp2
  (first|go_end0|((try simp only[Exit.inBlock,Exit.then]);refine bodyPost_ret (results_none rfl _ _ _) rfl ?_))
  rw[HR.out]
  exact⟨rfl,F,HE.out,Fp.refl _ _⟩
theorem gW (w:World):Calls Tryz.prog 163 #[] w fun x w'=>x=.returned (.pointer (some ⟨w.heap.size,0,none⟩))∧En 301 w' [w.heap.size] w.heap.size (0,[])∧Fp [] [w.heap.size] w w':=by
 have h1:En 301 (w.alloc (.cells #[.slice none 0 0,.int .i64 0] 301)) [w.heap.size] w.heap.size (0,[]):=⟨_,Blk.new _ _ _,World.ownsRow_nil _ _ _ _,rfl⟩
 have h2:Fp [] [w.heap.size] w (w.alloc (.cells #[.slice none 0 0,.int .i64 0] 301)):=⟨(Bar.refl _ _).alloc _,fun k hk=>by simp at hk;omega⟩
 have H1:=ae.mk h1;have H2:=ae.mk h2
 clear h1 h2
 go_enter Tryz.func163,Tryz.ntmps163
 go_wp2
 go_ret
 exact⟨rfl,H1.out,H2.out⟩
theorem lU (w:World) (F:List Nat) (e:Nat) (st:St) (h:En 301 w F e st) (hb:Bytes st.2) (hl:st.2.length < 2147483648) :
    Calls Tryz.prog 166 #[.pointer (some ⟨e,0,none⟩)] w fun x w'=>∃ v,x=.returned (.tuple #[v,.int .i64 st.1])∧w'.ownsRow w.heap.size 5 1 v st.2.length (ints .u8 st.2)∧Below w.heap.size w w':=by
  obtain⟨v,hbk,ho,hF⟩:=h
  have c0:w.cell? ⟨e,0,none⟩=some v:=hbk.cell 0
  have c1:w.cell? ⟨e,1,none⟩=some (.int .i64 st.1):=hbk.cell 1
  obtain⟨A,cap,rfl,h1,h2,hr⟩:=aO ho hb
  have HC:=ae.mk (fun w' (r:Rd w' A st.2.length st.2)=>clone_any A st.2.length cap st.2 w' r hl)
  have HR:=ae.mk hr
  have HB:=ae.mk hbk
  clear hr ho hbk
  go_enter Tryz.func166,Tryz.ntmps166
  go_wp2
  go_region_held3 (fun w'=>w'.cell? ⟨e,0,none⟩=some (.slice A st.2.length cap)∧w'.cell? ⟨e,1,none⟩=some (.int .i64 st.1))
    (first
      | go_keep
      | exact⟨(HB.out.drew.below hbel HB.out.lt).cell 0,(HB.out.drew.below hbel HB.out.lt).cell 1⟩)
    ((go_at_call 32;refine(HC.out w.drew HR.out.drew).mono ?_;rintro x w' ⟨u,rfl,hown,hbel⟩))
  go_wp2
  go_ret2
  exact⟨u,rfl,hown,⟨hbel.os,hbel.tape,hbel.output,hbel.size,hbel.block⟩⟩
end Wire
namespace Frame
open Go.RowKit Sha Wire
theorem _root_.Go.Proofs.YtlkeieoecfkkeaaGreat.Sha.Rd.upto {w:World}{A:Option Addr}{n m:Nat}{xs:List Int}(r:Rd w A n xs) (h:m≤n):Rd w A m (xs.take m):=by
 obtain⟨h1,h2,h3⟩:=r
 refine⟨by rw[List.length_take];omega,h2.take m,?_⟩
 rcases h3 with h3|⟨b,o,h4,h5⟩
 ·exact .inl (by omega)
 ·exact .inr ⟨b,o,h4,fun i hi=>by rw[h5 i (by omega),bY hi]⟩
theorem az {P:Program}{fn:Func}{p u v:Tmp}{ty:TypeId}(h:fn.results=#[.cell p ty,.tmp u,.tmp v]) (tmps:Array Value) (w:World) (g:Nat) (t:TypeId) (cs:Array Value) (fr:Nat × Nat) (d:TypeDesc)
  (hp:tmps.getD p undef=.pointer (some ⟨g,0,none⟩)) (hg:w.heap[g]?=some (.cells cs t fr))
  (hu:P.underlying ty=some d) (hd:(match d with|.struct _|.array _ _=>true|_=>false)=true) (hi:(P.info? ty).map (·.size)=some cs.size) :
  (results fn tmps).run P w=.ok (.tuple #[.agg cs,tmps.getD u undef,tmps.getD v undef]) w:=by
 have hp':tmps[p]?.getD undef=.pointer (some ⟨g,0,none⟩):=by simpa using hp
 simp[results,h,hp',asAddr,run_loadVar_row w g t ty cs fr d hg hu hd hi,Result.andThen]
theorem bC:(Tryz.prog.info? 231).map (·.size)=some 4:=by kernel_rfl
theorem sG {w:World}{N:Nat}{t:TypeId}{c0 c1 c2 c3:Value}(h:Blk w N t #[c0,c1,c2,c3]) (v0 v1 v2 v3:Value) :
  Blk ((((w.setCell ⟨N,0,none⟩ v0).setCell ⟨N,1,none⟩ v1).setCell ⟨N,2,none⟩ v2).setCell ⟨N,3,none⟩ v3) N t #[v0,v1,v2,v3]∧Bar [N] w ((((w.setCell ⟨N,0,none⟩ v0).setCell ⟨N,1,none⟩ v1).setCell ⟨N,2,none⟩ v2).setCell ⟨N,3,none⟩ v3) :=
 ⟨(((h.set_ 0 v0).set_ 1 v1).set_ 2 v2).set_ 3 v3,((((Bar.refl [N] w).setCell (by simp) _).setCell (by simp) _).setCell (by simp) _).setCell (by simp) _⟩
end Frame
namespace Wire
open Go.RowKit Sha
theorem nT (A:Option Addr) (n c:Nat) (xs:List Int) (w:World) (hr:Rd w A n xs) (hn:n < 2147483648) :
  Calls Tryz.prog 83 #[.slice A n c] w fun x w'=>∃ d G,x=.returned (.pointer (some ⟨d,0,none⟩))∧De 236 w' d G (0,xs)∧w.heap.size≤d∧(∀ k∈G,w.heap.size≤k∧k < w'.heap.size)∧d∉G∧Below w.heap.size w w':=by
 have LX:=hr.1
 have BX:=ae.mk hr.2.1
 have hcl:=ae.mk (clone_any A n c xs w hr hn)
 clear hr
 go_enter Tryz.func83,Tryz.ntmps83
 go_wp2_with fail
 refine hcl.out.mono ?_
 rintro x w1 ⟨v,rfl,own,b1⟩
 obtain⟨A1,c1,rfl,h1,h2,r1⟩:=aO own BX.out
 subst LX
 have hD:De 236 (w1.alloc (.cells #[.slice A1 xs.length c1,.int .i64 0] 236)) w1.heap.size (Value.slice A1 xs.length c1).ownBlock.toList (0,xs) :=
  ⟨fun k hk=>by have:=(own.lt k (by simpa using hk)).2;simp;omega,A1,c1,Blk.new _ _ _,r1.below ((Below.refl _ w1).alloc (Nat.le_refl _) _),h1,h2,fun F hF=>eH own hF⟩
 have HD:=ae.mk hD
 have B1:=ae.mk b1;have HL:=ae.mk own.lt
 clear hcl own r1 b1 hD
 go_wp2
 go_ret
 refine⟨_,_,rfl,HD.out,B1.out.size,fun k hk=>?_,fun hk=>?_,B1.out.alloc B1.out.size _⟩
 ·have:=HL.out k (by simpa using hk)
  simp;omega
 ·have:=HL.out w1.heap.size (by simpa using hk)
  omega
theorem first_any (A:Option Addr) (n c s:Nat) (xs:List Int) (w:World) (hr:Rd w A n xs) (hc:n≤c) (hs:1≤s) (h8:s≤8) :
  Calls Tryz.prog 122 #[.slice A n c,.int .i64 s] w fun x w'=>x=.returned (.tuple #[.int .i64 (frst xs s).1,.bool (frst xs s).2])∧w=w':=by
 by_cases hsn:s≤n
 ·obtain⟨A',hsl,r',-⟩:=rQ hr hc s hsn s rfl
  have HR:=ae.mk r'
  have LX:=hr.1
  have BX:=ae.mk hr.2.1
  clear hr r'
  have hsn':¬ (n:Int) < s:=by omega
  go_enter Tryz.func122,Tryz.ntmps122
  go_wp2
  go_loop [6,8,17] (fun u x i=>∃ k:Nat,k≤s∧u=.int .u64 (val (xs.take k):Nat)∧i=.int .i64 k) (fun _ _ i=>s - (Go.RowKit.intOf i).toNat)
  case atStart=>exact⟨0,by omega,rfl,rfl⟩
  case round =>
   obtain⟨k,hk,rfl,rfl⟩:=hrel
   by_cases hks:k < s
   ·have hks':(k:Int) < s:=by omega
    obtain⟨b,o,rfl,hcell⟩:=HR.out.2.2.resolve_left (by omega)
    have x0:=hcell k hks
    rw[bY hks] at x0
    have hx:=BX.out.at_ k
    have hst:=FM xs k (by omega)
    have hlt:=iM xs BX.out k (by omega)
    have hlt7:256 ^ k≤256 ^ 7:=Nat.pow_le_pow_right (by omega) (by omega)
    generalize at_ xs k=x at *
    generalize val (xs.take k)=v at *
    have ho:=Oq v x hx (by omega)
    rw[← hst] at ho
    have hw:IntKind.u64.wrap ((v:Int) * 256)=(v:Int) * 256:=by rw[IntKind.wrap_u64];omega
    have hw2:IntKind.u64.wrap x=x:=by rw[IntKind.wrap_u64];omega
    clear hcell hst
    go_wp2
    go_round
    case rel=>exact⟨k+1,by omega,rfl,by go_num⟩
    case measure=>simp[Go.RowKit.intOf];omega
   ·have hks':¬ (k:Int) < s:=by omega
    obtain rfl:k=s:=by omega
    have hlt:=iM xs BX.out k (by omega)
    have hlt8:256 ^ k≤256 ^ 8:=Nat.pow_le_pow_right (by omega) (by omega)
    obtain⟨v,hv0⟩:∃ v,val (xs.take k)=v:=⟨_,rfl⟩
    rw[hv0] at hlt ⊢
    have HV:=ae.mk hv0
    clear hv0
    by_cases hv:v≤4611686018427387904
    ·have hv':¬ (4611686018427387904:Int) < v:=by omega
     have hw:IntKind.i64.wrap (v:Int)=v:=by rw[IntKind.wrap_i64];omega
     have HE:=ae.mk (show frst xs k=((v:Int),true) by unfold frst;rw[HV.out,LX,if_pos ⟨hsn,hv⟩])
     go_wp2
     go_ret2
     exact⟨by rw[HE.out];rfl,rfl⟩
    ·have hv':(4611686018427387904:Int) < v:=by omega
     have HE:=ae.mk (show frst xs k=(0,false) by unfold frst;rw[HV.out,LX,if_neg (fun hh=>hv hh.2)])
     go_wp2
     go_ret2
     exact⟨by rw[HE.out];rfl,rfl⟩
 ·have hsn':(n:Int) < s:=by omega
  have HE:=ae.mk (show frst xs s=(0,false) by unfold frst;rw[hr.1,if_neg (fun hh=>hsn hh.1)])
  clear hr
  go_enter Tryz.func122,Tryz.ntmps122
  go_wp2
  go_ret2
  exact⟨by rw[HE.out];rfl,rfl⟩
theorem pX (w:World) (d:Nat) (G:List Nat) (s:Int) (st:St) (h:De 236 w d G st) (hd:d∉G) :
  Calls Tryz.prog 84 #[.pointer (some ⟨d,0,none⟩),.int .i64 s] w fun x w'=>x=.returned (.int .i64 (decNum st s).1)∧De 236 w' d G (decNum st s).2∧Bar [d] w w':=by
 obtain⟨err,xs⟩:=st
 have HD:=ae.mk h
 obtain⟨hG,A,c,hb,hr,hc,hm,ho⟩:=h
 simp only at hb hr hc hm ho
 have c0:w.cell? ⟨d,0,none⟩=some (.slice A xs.length c):=hb.cell 0
 have c1:w.cell? ⟨d,1,none⟩=some (.int .i64 err):=hb.cell 1
 have z0:=hb.frozen 0
 have z1:=hb.frozen 1
 have HB:=ae.mk hb;have HR:=ae.mk hr;have HO:=ae.mk ho
 clear hb hr ho
 by_cases he:err=0
 ·subst he
  by_cases hs:1≤s∧s≤8
  ·have ci:=ae.mk fun w=>jI s w
   rw[decide_eq_true hs] at ci
   obtain⟨k,rfl⟩:∃ k:Nat,s=k:=⟨s.toNat,by omega⟩
   have cf:=ae.mk fun w' (r:Rd w' A xs.length xs)=>first_any A xs.length c k xs w' r hc (by omega) (by omega)
   have hf:=Bj xs k (by omega) (by omega)
   cases hk:(frst xs k).2 with
   | true =>
    have hkl:=Jo hk
    rw[if_pos hk] at hf
    rw[hk] at cf
    generalize (frst xs k).1=v at *
    have HF:=ae.mk hf
    obtain⟨A',hsl,r',o'⟩:=jh HR.out hc k hkl k rfl
    have R':=ae.mk r';have O':=ae.mk o'
    have hmk:c - k≤9223372036854775807:=by omega
    have hck:xs.length - k≤c - k:=by omega
    clear hf hk r' o' HD
    go_enter Tryz.func84,Tryz.ntmps84
    go_wp2_with (first
     | (go_at_call 121;refine(ci.out _).mono ?_;rintro x w' ⟨rfl,rfl⟩)
     | (go_at_call 122;refine(cf.out _ HR.out).mono ?_;rintro x w' ⟨rfl,rfl⟩))
    go_ret
    have hbar:Bar [d] w (w.setCell ⟨d,0,none⟩ (.slice A' (xs.length - k) (c - k))):=(Bar.refl _ _).setCell (by simp) _
    rw[HF.out]
    exact⟨rfl,De.set (n:=xs.length - k) hG hd (by simp) (HB.out.set_ 0 _) hbar R'.out hck hmk (fun F hF=>O'.out F (HO.out F hF)),hbar⟩
   | false =>
    rw[if_neg (by rw[hk];simp)] at hf
    rw[hk] at cf
    generalize (frst xs k).1=v at *
    have HF:=ae.mk hf
    clear hf hk HD
    go_enter Tryz.func84,Tryz.ntmps84
    go_wp2_with (first
     | (go_at_call 121;refine(ci.out _).mono ?_;rintro x w' ⟨rfl,rfl⟩)
     | (go_at_call 122;refine(cf.out _ HR.out).mono ?_;rintro x w' ⟨rfl,rfl⟩))
    go_ret
    have hbar:Bar [d] w (w.setCell ⟨d,1,none⟩ (.int .i64 2)):=(Bar.refl _ _).setCell (by simp) _
    rw[HF.out]
    exact⟨rfl,De.set (n:=xs.length) hG hd rfl (HB.out.set_ 1 _) hbar HR.out hc hm HO.out,hbar⟩
  ·have ci:=ae.mk fun w=>jI s w
   rw[decide_eq_false hs] at ci
   have HF:=ae.mk (jR xs s hs)
   clear HD
   go_enter Tryz.func84,Tryz.ntmps84
   go_wp2_with (go_at_call 121;refine(ci.out _).mono ?_;rintro x w' ⟨rfl,rfl⟩)
   go_ret
   have hbar:Bar [d] w (w.setCell ⟨d,1,none⟩ (.int .i64 1)):=(Bar.refl _ _).setCell (by simp) _
   rw[HF.out]
   exact⟨rfl,De.set (n:=xs.length) hG hd rfl (HB.out.set_ 1 _) hbar HR.out hc hm HO.out,hbar⟩
 ·have HF:=ae.mk (sZ (err,xs) s he)
  have he2:(err != 0)=true:=by simpa using he
  go_enter Tryz.func84,Tryz.ntmps84
  go_wp2
  go_ret
  rw[HF.out]
  exact⟨rfl,HD.out,Bar.refl _ _⟩
end Wire
namespace Frame
open Go.RowKit Sha Wire
instance (H:List Int):Decidable (qQ H):=by unfold qQ;infer_instance
def gI (H:List Int) (w:World) (e:Ending) (w':World):Prop :=
 e=.returned (.tuple #[.agg #[.int .i64 (hK H),.int .i64 (hG H),.int .i64 (hS H),.slice none 0 0],.int .i64 (hN H),.bool (decide (qQ H))])∧Below w.heap.size w w'
theorem Iu {H:List Int}(hb:Bytes H) (h:H.length=16) (o s:Nat) (hs:s=1∨s=2∨s=4) (ho:o+s≤16):decNum (0,H.drop o) (s:Int)=(((val ((H.drop o).take s):Nat):Int),(0,H.drop (o+s))):=by
 have hv:=val4 ((H.drop o).take s) ((hb.drop _).take _) (by simp;omega)
 rw[jH _ s (by omega) (by omega) ⟨by rw[List.length_drop];omega,by omega⟩,List.drop_drop]
def Rx (w0:World) (N d:Nat) (G:List Nat) (st:St) (w:World):Prop :=
 De 236 w d G st∧Blk w N 231 #[.int .i64 0,.int .i64 0,.int .i64 0,.slice none 0 0]∧Below N w0 w
theorem gQ {w0:World}{N d:Nat}{G:List Nat}{st:St}{w:World}(hNw:w0.heap.size=N) (hd:N < d) (hG:d∉G) (h:Rx w0 N d G st w) (s:Int) :
  Calls Tryz.prog 84 #[.pointer (some ⟨d,0,none⟩),.int .i64 s] w fun x w'=>x=.returned (.int .i64 (decNum st s).1)∧Rx w0 N d G (decNum st s).2 w'∧Bar [d] w w':=by
 obtain⟨h1,h2,h3⟩:=h
 refine(pX w d G s st h1 hG).mono ?_
 rintro x w' ⟨rfl,k1,k2⟩
 have hs:=h3.size
 exact⟨rfl,⟨k1,h2.bar k2 (by rw[List.mem_singleton];omega),h3.trans (k2.below (by omega) (fun k hk=>by rw[List.mem_singleton] at hk;omega))⟩,k2⟩
theorem lL (A:Option Addr) (c:Nat) (H:List Int) (w:World) (hr:Rd w A 16 H) :
  Calls Tryz.prog 156 #[.slice A 16 c] w (gI H w):=by
 obtain⟨N,hNw⟩:∃ N,w.heap.size=N:=⟨_,rfl⟩
 have hb:=ae.mk hr.2.1
 have hl:=ae.mk hr.1
 have B0:=ae.mk (Blk.new_at w 231 #[.int .i64 0,.int .i64 0,.int .i64 0,.slice none 0 0] N hNw.symm)
 have b0:ae (Below N w (w.alloc (.cells #[.int .i64 0,.int .i64 0,.int .i64 0,.slice none 0 0] 231))):=⟨(Below.refl _ _).alloc (by omega) _⟩
 have hs0:(w.alloc (.cells #[.int .i64 0,.int .i64 0,.int .i64 0,.slice none 0 0] 231)).heap.size=N+1:=by simp[hNw]
 have R0:ae (Rd (w.alloc (.cells #[.int .i64 0,.int .i64 0,.int .i64 0,.slice none 0 0] 231)) A 16 H):=⟨hr.below (by rw[hNw];exact b0.out)⟩
 clear hr
 go_enter Tryz.func156,Tryz.ntmps156
 go_wp2_with fail
 generalize w.alloc (.cells #[.int .i64 0,.int .i64 0,.int .i64 0,.slice none 0 0] 231)=w1 at *
 refine(nT A 16 c H w1 R0.out (by omega)).mono ?_
 rintro x w2 ⟨d,G,rfl,D2,hd,-,hGn,b2⟩
 have hdN:N < d:=by omega
 have T2:Rx w N d G (0,H) w2:=⟨D2,B0.out.below b2 (by omega),b0.out.trans (b2.mono (by omega))⟩
 clear D2 hd b2 B0 b0 R0 hs0
 go_wp2_with fail
 refine(gQ hNw hdN hGn T2 2).mono ?_
 rintro x w3 ⟨rfl,T3,-⟩
 have e3:decNum (0,H) 2=(((val (H.take 2):Nat):Int),(0,H.drop 2)):=Iu hb.out hl.out 0 2 (by omega) (by omega)
 rw[e3] at T3 ⊢
 clear T2 e3
 go_wp2_with fail
 refine(gQ hNw hdN hGn T3 1).mono ?_
 rintro x w4 ⟨rfl,T4,-⟩
 have e4:decNum (0,H.drop 2) 1=(((hK H:Nat):Int),(0,H.drop 3)):=Iu hb.out hl.out 2 1 (by omega) (by omega)
 rw[e4] at T4 ⊢
 clear T3 e4
 go_wp2_with fail
 refine(gQ hNw hdN hGn T4 1).mono ?_
 rintro x w5 ⟨rfl,T5,-⟩
 have e5:decNum (0,H.drop 3) 1=(((hZ H:Nat):Int),(0,H.drop 4)):=Iu hb.out hl.out 3 1 (by omega) (by omega)
 rw[e5] at T5 ⊢
 clear T4 e5
 go_wp2_with fail
 refine(gQ hNw hdN hGn T5 4).mono ?_
 rintro x w6 ⟨rfl,T6,-⟩
 have e6:decNum (0,H.drop 4) 4=(((hG H:Nat):Int),(0,H.drop 8)):=Iu hb.out hl.out 4 4 (by omega) (by omega)
 rw[e6] at T6 ⊢
 clear T5 e6
 go_wp2_with fail
 refine(gQ hNw hdN hGn T6 4).mono ?_
 rintro x w7 ⟨rfl,T7,-⟩
 have e7:decNum (0,H.drop 8) 4=(((hS H:Nat):Int),(0,H.drop 12)):=Iu hb.out hl.out 8 4 (by omega) (by omega)
 rw[e7] at T7 ⊢
 clear T6 e7
 have hd7:=T7.1.lt
 obtain⟨T,hT⟩:∃ T,w7.heap.size=T:=⟨_,rfl⟩
 rw[hT] at hd7
 go_wp2_with fail
 have T8:Rx w N d G (0,H.drop 12) (w7.alloc (.cells #[.int .i64 (hK H),.int .i64 (hG H),.int .i64 (hS H),.slice none 0 0] 231)) :=
  ⟨T7.1.below ((Below.refl _ _).alloc (Nat.le_refl _) _),T7.2.1.alloc _,T7.2.2.alloc (by have:=T7.2.1.lt;omega) _⟩
 have F8:=Blk.new_at w7 231 #[.int .i64 (hK H),.int .i64 (hG H),.int .i64 (hS H),.slice none 0 0] T hT.symm
 generalize w7.alloc (.cells #[.int .i64 (hK H),.int .i64 (hG H),.int .i64 (hS H),.slice none 0 0] 231)=w8 at *
 clear T7 hT
 refine(gQ hNw hdN hGn T8 4).mono ?_
 rintro x w9 ⟨rfl,T9,br9⟩
 have e9:decNum (0,H.drop 12) 4=(((hN H:Nat):Int),(0,H.drop 16)):=Iu hb.out hl.out 12 4 (by omega) (by omega)
 rw[e9] at T9 ⊢
 have F9:=F8.bar br9 (by rw[List.mem_singleton];omega)
 have HO:ae (gI H w (.returned (.tuple #[.agg #[.int .i64 (hK H),.int .i64 (hG H),.int .i64 (hS H),.slice none 0 0],.int .i64 (hN H),.bool (decide (val (H.take 2)=25446∧hZ H=0∧hN H≤60000))])) (((((w9.setCell ⟨N,0,none⟩ (.int .i64 (hK H))).setCell ⟨N,1,none⟩ (.int .i64 (hG H))).setCell ⟨N,2,none⟩ (.int .i64 (hS H))).setCell ⟨N,3,none⟩ (.slice none 0 0)))) :=
  ⟨rfl,by rw[hNw];exact T9.2.2.trans ((sG T9.2.1 _ _ _ _).2.below (by have:=T9.2.2.size;omega) (fun k hk=>by rw[List.mem_singleton] at hk;omega))⟩
 have P4:=ae.mk (sG T9.2.1 (.int .i64 (hK H)) (.int .i64 (hG H)) (.int .i64 (hS H)) (.slice none 0 0)).1
 have f0:=F9.cell 0;have f1:=F9.cell 1;have f2:=F9.cell 2;have f3:=F9.cell 3
 have g0:=T9.2.1.cell 0;have g1:=T9.2.1.cell 1;have g2:=T9.2.1.cell 2;have g3:=T9.2.1.cell 3
 have z0:=T9.2.1.frozen 0;have z1:=T9.2.1.frozen 1;have z2:=T9.2.1.frozen 2;have z3:=T9.2.1.frozen 3
 clear T8 T9 F8 F9 br9 e9
 generalize val (H.take 2)=x1 at *
 generalize hZ H=x2 at *
 generalize hN H=x3 at *
 generalize hK H=x4 at *
 generalize hG H=x5 at *
 generalize hS H=x6 at *
 by_cases h1:x1=25446
 ·subst h1
  by_cases h2:x2=0
  ·subst h2
   by_cases h3:x3≤60000
   ·have h3':(x3:Int)≤60000:=by omega
    rw[show decide (25446=25446∧0=0∧x3≤60000)=true by simpa using h3] at HO
    go_wp2
    (try simp only[Exit.inBlock,Exit.then])
    refine bodyPost_ret (az rfl _ _ N 231 #[.int .i64 x4,.int .i64 x5,.int .i64 x6,.slice none 0 0] (0,0) _ rfl P4.out Tryz.underlying231 rfl bC) rfl ?_
    exact HO.out
   ·have h3':¬ (x3:Int)≤60000:=by omega
    have h3d:decide ((x3:Int)≤60000)=false:=by simpa using h3'
    rw[show decide (25446=25446∧0=0∧x3≤60000)=false by simpa using h3] at HO
    go_wp2
    (try simp only[Exit.inBlock,Exit.then])
    refine bodyPost_ret (az rfl _ _ N 231 #[.int .i64 x4,.int .i64 x5,.int .i64 x6,.slice none 0 0] (0,0) _ rfl P4.out Tryz.underlying231 rfl bC) rfl ?_
    exact HO.out
  ·have h2':¬ (x2:Int)=0:=by omega
   have h2d:((x2:Int) == 0)=false:=by simpa using h2'
   rw[show decide (25446=25446∧x2=0∧x3≤60000)=false by simp[h2]] at HO
   go_wp2
   (try simp only[Exit.inBlock,Exit.then])
   refine bodyPost_ret (az rfl _ _ N 231 #[.int .i64 x4,.int .i64 x5,.int .i64 x6,.slice none 0 0] (0,0) _ rfl P4.out Tryz.underlying231 rfl bC) rfl ?_
   exact HO.out
 ·have h1':¬ (x1:Int)=25446:=by omega
  have h1d:((x1:Int) == 25446)=false:=by simpa using h1'
  rw[show decide (x1=25446∧x2=0∧x3≤60000)=false by simp[h1]] at HO
  go_wp2
  (try simp only[Exit.inBlock,Exit.then])
  refine bodyPost_ret (az rfl _ _ N 231 #[.int .i64 x4,.int .i64 x5,.int .i64 x6,.slice none 0 0] (0,0) _ rfl P4.out Tryz.underlying231 rfl bC) rfl ?_
  exact HO.out
end Frame
namespace Wire
open Go.RowKit Sha
theorem VF (w:World) (d:Nat) (G:List Nat) (st:St) (h:De 236 w d G st) :
  Calls Tryz.prog 89 #[.pointer (some ⟨d,0,none⟩)] w fun x w'=>x=.returned (.int .i64 (endOf st))∧w=w':=by
 obtain⟨err,xs⟩:=st
 obtain⟨-,A,c,hb,-⟩:=h
 have c0:w.cell? ⟨d,0,none⟩=some (.slice A xs.length c):=hb.cell 0
 have c1:w.cell? ⟨d,1,none⟩=some (.int .i64 err):=hb.cell 1
 clear hb
 by_cases he:err=0
 ·subst he
  by_cases hl:xs.length=0
  ·have hl':¬ (0:Int) < xs.length:=by omega
   have HE:=ae.mk (show endOf (0,xs)=0 by unfold endOf;simp[hl])
   generalize xs.length=n at *
   go_enter Tryz.func89,Tryz.ntmps89
   go_wp2
   go_ret
   exact⟨by rw[HE.out];rfl,rfl⟩
  ·have hl':(0:Int) < xs.length:=by omega
   have HE:=ae.mk (show endOf (0,xs)=2 by unfold endOf;simp only[if_true];rw[if_neg hl])
   generalize xs.length=n at *
   go_enter Tryz.func89,Tryz.ntmps89
   go_wp2
   go_ret
   exact⟨by rw[HE.out];rfl,rfl⟩
 ·have HE:=ae.mk (show endOf (err,xs)=err by unfold endOf;rw[if_neg he])
  have he2:(err == 0)=false:=by simpa using he
  go_enter Tryz.func89,Tryz.ntmps89
  go_wp2
  go_ret
  exact⟨by rw[HE.out];rfl,rfl⟩
theorem Ou (n s:Int) (w:World):Calls Tryz.prog 104 #[.int .i64 n,.int .i64 s] w fun e w'=>e=.returned (.bool (fits n s))∧w=w':=by
 rcases errs_cases n s with⟨h1,h8,h0,hm,hu,hi,HQ⟩|⟨hf,hc⟩
 ·by_cases h9:s=8
  ·subst h9
   have hf:fits n 8=true:=by rw[← HQ.out];rfl
   rw[hf]
   clear HQ hf
   go_enter Tryz.func104,Tryz.ntmps104
   go_wp2
   go_ret
   exact⟨rfl,rfl⟩
  ·go_enter Tryz.func104,Tryz.ntmps104
   go_wp2
   go_ret
   exact⟨by rw[← HQ.out];rfl,rfl⟩
 ·rw[hf]
  clear hf
  rcases hc with hc|⟨hc1,hc⟩|⟨hc1,hc2,hc⟩|⟨hc1,hc2,hc3,hc⟩
  all_goals
   go_enter Tryz.func104,Tryz.ntmps104
   go_wp2
   go_ret
   exact⟨rfl,rfl⟩
def jP (n s:Nat) (w:World) (e:Ending) (w':World):Prop:=∃ g c,e=.returned (.slice (some ⟨g,0,none⟩) s c)∧w.heap.size≤g∧Rd w' (some ⟨g,0,none⟩) s (be n s)∧Below w.heap.size w w'
theorem RJ (n s:Nat) (w:World) (h1:1≤s) (hs:s≤8):Calls Tryz.prog 39 #[.int .i64 n,.int .i64 s] w (jP n s w):=by
 go_enter Tryz.func39,Tryz.ntmps39
 go_wp2
 go_loopw [5,6] (fun v i wr=>∃ (k:Nat) (cur:List Int) (u:Value),k≤s∧u=v∧i=.int .i64 ((k:Int) - 1)∧ae (cur++be n k=be n s)∧ae (wr.ownsRow w.heap.size 5 1 u cur.length (ints .u8 cur))∧ae (Below w.heap.size w wr)) (fun _ i _=>(Go.RowKit.intOf i+1).toNat)
 case atStart=>exact⟨s,[],_,by omega,rfl,by go_num,⟨rfl⟩,⟨World.ownsRow_nil _ _ _ _⟩,⟨Below.refl _ _⟩⟩
 case round =>
  obtain⟨k,cur,v,hk,rfl,rfl,HC,OW,BW⟩:=hrel
  have hsz:cur.length+k=s:=by
   have:=congrArg List.length HC.out
   simpa only[List.length_append,aJ] using this
  by_cases h0:k=0
  ·subst h0
   have hc:=HC.out
   simp only[be,List.append_nil] at hc
   subst hc
   rw[aJ] at OW
   obtain⟨g,cap,rfl,hg,-⟩:=OW.out.form (by omega)
   obtain⟨A7,c7,e7,-,-,r7⟩:=aO OW.out (ah n s)
   injection e7 with e7 _ e8
   subst e7 e8
   have R7:=ae.mk r7
   clear r7 HC OW
   go_wp2
   go_ret
   exact⟨g,cap,rfl,hg,R7.out,BW.out⟩
  ·obtain⟨j,rfl⟩:∃ j,k=j+1:=⟨k - 1,by omega⟩
   obtain⟨b,hbb⟩:∃ b:Int,((n / 256 ^ j % 256:Nat):Int)=b:=⟨_,rfl⟩
   have hb0:0≤b∧b≤255:=by
    have:n / 256 ^ j % 256 < 256:=Nat.mod_lt _ (by omega)
    omega
   have hB:=Oo n j
   have hm:IntKind.i64.wrap (8 * (j:Int))=8 * j:=by rw[IntKind.wrap_i64];omega
   have hu:IntKind.u64.wrap (8 * (j:Int))=8 * j:=by rw[IntKind.wrap_u64];omega
   rw[hbb] at hB
   have hB2:IntKind.u8.wrap ((n:Int) / 2 ^ (8 * j))=b:=by rw[← hB,show (8 * (j:Int)).toNat=8 * j by omega]
   have hbe:be n (j+1)=b :: be n j:=by rw[be,hbb]
   have HBE:=ae.mk hbe
   clear hbb hbe
   go_wp2_with ((with_reducible refine sel 21 ?_);refine ai rfl (.tmp 13) (.tmp 20) 22 rfl w.heap.size 5 Tryz.underlying22 ax v cur.length _ rfl (OW.out.alloc _) (some ⟨wr.heap.size,0,none⟩) 1 1 [b] rfl (di wr b hb0) (by omega) (by have:=BW.out.size;simp;omega) ?_;intro v7 w7 o7 g7;have B7:=ae.mk ((BW.out.alloc BW.out.size (.cells #[.int .u8 b] 5)).trans (own_below (OW.out.alloc (.cells #[.int .u8 b] 5)) g7 (by have:=BW.out.size;simp;omega)));rw[← af] at o7;have O7:=ae.mk o7.out;clear o7 g7)
   go_roundw
   case rel =>
    refine⟨j,cur++[b],v7,by omega,rfl,by go_num,⟨?_⟩,⟨?_⟩,B7⟩
    ·have:=HC.out
     rw[HBE.out] at this
     rw[List.append_assoc]
     exact this
    ·rw[List.length_append];exact O7.out
   case measure=>simp[Go.RowKit.intOf]
def Ov (st:St) (e:Int):St:=(if st.1=0 then e else st.1,st.2)
def dw (st:St) (n s:Int):St:=if fits n s=true then (st.1,st.2++be n.toNat s.toNat) else Ov st 1
theorem Ox (w:World) (F:List Nat) (e:Nat) (st:St) (err:Int) (h:En 158 w F e st):Calls Tryz.prog 105 #[.pointer (some ⟨e,0,none⟩),.int .i64 err] w fun x w'=>x=.returned (.tuple #[])∧En 158 w' F e (Ov st err)∧Fp F F w w':=by
 obtain⟨er,xs⟩:=st
 have HE:=ae.mk h
 obtain⟨v,h1,h2,rfl⟩:=h
 have c1:w.cell? ⟨e,1,none⟩=some (.int .i64 er):=h1.cell 1
 have z1:=h1.frozen 1
 have H1:=ae.mk h1;have H2:=ae.mk h2
 have hfar:=ae.mk (bK h2 h1 (by decide))
 clear h1 h2
 by_cases he:er=0
 ·subst he
  go_enter Tryz.func105,Tryz.ntmps105
  go_wp2
  go_end0
  have hbar:Bar [e] w (w.setCell ⟨e,1,none⟩ (.int .i64 err)):=(Bar.refl _ _).setCell (by simp) _
  refine⟨rfl,⟨v,H1.out.set_ 1 _,own_keep H2.out hbar (fun g hg hm=>hfar.out ?_),rfl⟩,hbar.mono ?_,fun k hk=>.inl hk⟩
  ·simp at hg hm;rw[hg,hm]
  ·intro x hx;simp at hx;simp[hx]
 ·have HR:=ae.mk (show Ov (er,xs) err=(er,xs) by unfold Ov;simp[he])
  have he2:(er == 0)=false:=by simpa using he
  go_enter Tryz.func105,Tryz.ntmps105
  go_wp2
  go_end0
  rw[HR.out]
  exact⟨rfl,HE.out,Fp.refl _ _⟩
theorem RP (w:World) (F:List Nat) (e:Nat) (A:Option Addr) (m c:Nat) (b:List Int) (st:St) (h:En 158 w F e st) (hr:Rd w A m b) (hl:st.2.length+m≤4294967296) :
  Calls Tryz.prog 94 #[.pointer (some ⟨e,0,none⟩),.slice A m c] w fun x w'=>x=.returned (.tuple #[])∧∃ F',En 158 w' F' e (st.1,st.2++b)∧Fp F F' w w':=by
 obtain⟨er,xs⟩:=st
 obtain⟨v,hb,ho,hG⟩:=h
 have c0:w.cell? ⟨e,0,none⟩=some v:=hb.cell 0
 have HB:=ae.mk hb;have HO:=ae.mk ho;have HR:=ae.mk hr
 have hfar:=bK ho hb (by decide)
 simp only at hl
 clear hb ho hr
 go_enter Tryz.func94,Tryz.ntmps94
 go_wp2_with ((with_reducible refine sel 10 ?_);refine ak rfl (.tmp 8) (.tmp 9) 22 rfl 0 5 Tryz.underlying22 ax v xs.length _ rfl HO.out A m c b rfl HR.out hl (by omega) ?_;intro v7 w7 o7 g7 a7;obtain⟨A7,c7,rfl⟩:=aY o7.out;have d0:w7.cell? ⟨e,0,none⟩=some v:=(HB.out.grown g7 (Ne.symm hfar)).cell 0;have z0:w7.frozen? ⟨e,0,none⟩=false:=(HB.out.grown g7 (Ne.symm hfar)).frozen 0)
 go_end0
 have hst:=xu (by decide) HB.out (Bar.refl [] w) g7 hfar (ys:=xs++b) (by
   have:=o7.out
   rw[← af] at this
   exact this) (by
   rcases a7 with h|h
   ·exact .inl h
   ·exact .inr ⟨_,h,Nat.le_refl _⟩)
 subst hG
 exact⟨rfl,_,hst.1,hst.2⟩
theorem lV (w:World) (F:List Nat) (e:Nat) (n s:Int) (st:St) (h:En 158 w F e st) (hl:st.2.length≤2147483648) :
    Calls Tryz.prog 65 #[.pointer (some ⟨e,0,none⟩),.int .i64 n,.int .i64 s] w fun x w'=>x=.returned (.tuple #[])∧∃ F',En 158 w' F' e (dw st n s)∧Fp F F' w w':=by
  obtain⟨er,xs⟩:=st
  have HE:=ae.mk h
  have cf:=ae.mk fun w=>Ou n s w
  cases hf:fits n s with
  | false =>
    rw[hf] at cf
    have HR:=ae.mk (show dw (er,xs) n s=Ov (er,xs) 1 by unfold dw;rw[hf];simp)
    have cr:=ae.mk (Ox w F e (er,xs) 1 HE.out)
    clear hf h
    go_enter Tryz.func65,Tryz.ntmps65
    go_wp2_with (go_at_call 104;refine(cf.out _).mono ?_;rintro x w' ⟨rfl,rfl⟩)
    refine cr.out.mono ?_
    rintro x w' ⟨rfl,h1,h2⟩
    rw[← HR.out] at h1
    have H1:=ae.mk h1;have H2:=ae.mk h2
    clear h1 h2
    go_wp2
    (first|go_end0|((try simp only[Exit.inBlock,Exit.then]);refine bodyPost_ret (results_none rfl _ _ _) rfl ?_))
    exact⟨rfl,_,H1.out,H2.out⟩
  | true =>
    rw[hf] at cf
    obtain⟨-,-,h1,h8,h0⟩:=qo hf
    have HR:=ae.mk (show dw (er,xs) n s=(er,xs++be n.toNat s.toNat) by unfold dw;rw[hf];simp)
    obtain⟨v,hb,ho,hG⟩:=h
    have c0:w.cell? ⟨e,0,none⟩=some v:=hb.cell 0
    have z0:=hb.frozen 0
    obtain⟨sz,hsz⟩:∃ sz:Nat,s=sz:=⟨s.toNat,by omega⟩
    obtain⟨nn,hnn⟩:∃ nn:Nat,n=nn:=⟨n.toNat,by omega⟩
    subst hsz hnn
    simp only[Int.toNat_natCast] at HR
    have cp:=ae.mk fun w=>RJ nn sz w (by omega) (by omega)
    have HB:=ae.mk hb;have HO:=ae.mk ho
    have hfar:=bK ho hb (by decide)
    have hlt:=hb.lt
    simp only at hl ho
    clear hb ho hf HE
    obtain⟨iu,hi,hz0,hz1,hz2⟩:=info_parts ax
    go_enter Tryz.func65,Tryz.ntmps65
    go_wp2_with (go_at_call 104;refine(cf.out _).mono ?_;rintro x w' ⟨rfl,rfl⟩)
    go_region_law
      (first
        | (refine step_append_lies _ (by rfl) _ _ _ (by rfl) 0 5 iu _ 1 1 Tryz.underlying22 hi hz0 hz1 hz2 rfl (by omega) v xs.length (ints .u8 xs) (by rfl) HO8.out
            ⟨g8,0,none⟩ sz c8 (ints .u8 (be nn sz)) (by rfl) (by rw[ints_len,aJ];omega) HC8.out (ay _ _)
            (by omega) (by unfold maxLen;omega) (by omega) (by simp) w8.heap.size rfl ?_;intro gg cg w1 hown1 hgrow hat hlt1;have U0:=((HB8.out.grown hgrow (Ne.symm hfar)).cell 0);have U1:=((HB8.out.grown hgrow (Ne.symm hfar)).frozen 0))
        | (go_simp;go_at_call 39;refine(cp.out w.drew).mono ?_;rintro x w8 ⟨g8,c8,rfl,hg8,r8,b8⟩;have HB8:=ae.mk (Blk.below HB.out.drew b8 hlt);have T0:=HB8.out.cell 0;have HO8:=ae.mk (own_keep HO.out.drew (barOf b8 []) (by simp));have HC8:=ae.mk (Rj r8)))
    all_goals
      have hst:=xu (by decide) HB.out (barOf b8 []).drewL hgrow hfar (ys:=xs++be nn sz) (by rw[af];exact hown1) (by
        rcases hat with h|h
        · exact .inl h.symm
        · exact .inr ⟨gg,rfl,by have:=b8.size;simp at this;omega⟩)
      have HST:=ae.mk hst
      clear hst hgrow hown1 U0 U1 T0 HO8 HC8 HB8
      subst hG
      go_wp2
      go_end0
      rw[HR.out]
      exact⟨rfl,_,HST.out.1,HST.out.2⟩
theorem Aj (w:World) (d:Nat) (G:List Nat) (s:Int) (st:St) (h:De 135 w d G st) (hd:d∉G) :
  Calls Tryz.prog 54 #[.pointer (some ⟨d,0,none⟩),.int .i64 s] w fun x w'=>x=.returned (.int .i64 (decNum st s).1)∧De 135 w' d G (decNum st s).2∧Bar [d] w w':=by
 obtain⟨err,xs⟩:=st
 have HD:=ae.mk h
 obtain⟨hG,A,c,hb,hr,hc,hm,ho⟩:=h
 simp only at hb hr hc hm ho
 have c0:w.cell? ⟨d,0,none⟩=some (.slice A xs.length c):=hb.cell 0
 have c1:w.cell? ⟨d,1,none⟩=some (.int .i64 err):=hb.cell 1
 have z0:=hb.frozen 0
 have z1:=hb.frozen 1
 have HB:=ae.mk hb;have HR:=ae.mk hr;have HO:=ae.mk ho
 clear hb hr ho
 by_cases he:err=0
 ·subst he
  by_cases h1:1≤s
  ·by_cases h8:s≤8
   ·have h1':¬ s < 1:=by omega
    have h8':¬ 8 < s:=by omega
    obtain⟨k,rfl⟩:∃ k:Nat,s=k:=⟨s.toNat,by omega⟩
    by_cases hl:k≤xs.length
    ·have hl':¬ (xs.length:Int) < k:=by omega
     obtain⟨A',hsl,r',o'⟩:=jh HR.out hc k hl k rfl
     have R':=ae.mk r';have O':=ae.mk o'
     have hmk:c - k≤9223372036854775807:=by omega
     have hck:xs.length - k≤c - k:=by omega
     have BX:=ae.mk HR.out.2.1
     obtain⟨n,hn⟩:∃ n,xs.length=n:=⟨_,rfl⟩
     have HN:=ae.mk hn
     rw[hn] at c0 HR hsl R' O' hl hl' hck hc HO HB
     clear HD r' o' hn
     go_enter Tryz.func54,Tryz.ntmps54
     go_wp2
     go_loop [5,6] (fun u i=>∃ j:Nat,j≤k∧u=.int .u64 (val (xs.take j):Nat)∧i=.int .i64 j) (fun _ i=>k - (intOf i).toNat)
     case atStart=>exact⟨0,by omega,rfl,rfl⟩
     case round =>
      obtain⟨j,hj,rfl,rfl⟩:=hrel
      by_cases hjk:j < k
      ·have hjk':(j:Int) < k:=by omega
       have hjn:(j:Int) < n:=by omega
       obtain⟨b,o,rfl,hcell⟩:=HR.out.2.2.resolve_left (by omega)
       have x0:=hcell j (by omega)
       have hx:=BX.out.at_ j
       have hst:=FM xs j (by rw[HN.out];omega)
       have hlt:=iM xs BX.out j (by rw[HN.out];omega)
       have hlt7:256 ^ j≤256 ^ 7:=Nat.pow_le_pow_right (by omega) (by omega)
       generalize at_ xs j=x at *
       generalize val (xs.take j)=v at *
       have ho:=Oq v x hx (by omega)
       rw[← hst] at ho
       have hw:IntKind.u64.wrap ((v:Int) * 256)=(v:Int) * 256:=by rw[IntKind.wrap_u64];omega
       have hw2:IntKind.u64.wrap x=x:=by rw[IntKind.wrap_u64];omega
       clear hcell hst
       go_wp2
       go_round
       case rel=>exact⟨j+1,by omega,rfl,by go_num⟩
       case measure=>simp[intOf];omega
      ·have hjk':¬ (j:Int) < k:=by omega
       obtain rfl:j=k:=by omega
       have hlt:=iM xs BX.out j (by rw[HN.out];omega)
       have hlt8:256 ^ j≤256 ^ 8:=Nat.pow_le_pow_right (by omega) (by omega)
       obtain⟨v,hv0⟩:∃ v,val (xs.take j)=v:=⟨_,rfl⟩
       rw[hv0] at hlt ⊢
       have HV:=ae.mk hv0
       clear hv0
       by_cases hv:v≤4611686018427387904
       ·have hv':¬ (4611686018427387904:Int) < v:=by omega
        have hw:IntKind.i64.wrap (v:Int)=v:=by rw[IntKind.wrap_i64];omega
        have HE:=ae.mk (show decNum (0,xs) (j:Nat)=((v:Int),(0,xs.drop j)) by
         rw[jH xs j (by omega) (by omega) ⟨by rw[HN.out];exact hl,by rw[HV.out];exact hv⟩,HV.out])
        go_wp2
        go_ret
        have hbar:Bar [d] w (w.setCell ⟨d,0,none⟩ (.slice A' (n - j) (c - j))):=(Bar.refl _ _).setCell (by simp) _
        rw[HE.out]
        exact⟨rfl,De.set (n:=n - j) hG hd (by simp[HN.out]) (HB.out.set_ 0 _) hbar R'.out hck hmk (fun F hF=>O'.out F (HO.out F hF)),hbar⟩
       ·have hv':(4611686018427387904:Int) < v:=by omega
        have HE:=ae.mk (show decNum (0,xs) (j:Nat)=(0,(2,xs)) from Ag xs j (by omega) (by omega) (fun hh=>hv (by rw[← HV.out];exact hh.2)))
        go_wp2
        go_ret
        have hbar:Bar [d] w (w.setCell ⟨d,1,none⟩ (.int .i64 2)):=(Bar.refl _ _).setCell (by simp) _
        rw[HE.out]
        exact⟨rfl,De.set (n:=n) hG hd HN.out.symm (HB.out.set_ 1 _) hbar HR.out hc hm HO.out,hbar⟩
    ·have hl':(xs.length:Int) < k:=by omega
     have HE:=ae.mk (show decNum (0,xs) (k:Nat)=(0,(2,xs)) from Ag xs k (by omega) (by omega) (fun hh=>hl hh.1))
     clear HD
     go_enter Tryz.func54,Tryz.ntmps54
     go_wp2
     go_ret
     have hbar:Bar [d] w (w.setCell ⟨d,1,none⟩ (.int .i64 2)):=(Bar.refl _ _).setCell (by simp) _
     rw[HE.out]
     exact⟨rfl,De.set (n:=xs.length) hG hd rfl (HB.out.set_ 1 _) hbar HR.out hc hm HO.out,hbar⟩
   ·have h1':¬ s < 1:=by omega
    have h1d:decide (s < 1)=false:=by simpa using h1'
    have h8':8 < s:=by omega
    have HE:=ae.mk (jR xs s (fun hh=>h8 hh.2))
    clear HD
    go_enter Tryz.func54,Tryz.ntmps54
    go_wp2
    go_ret
    have hbar:Bar [d] w (w.setCell ⟨d,1,none⟩ (.int .i64 1)):=(Bar.refl _ _).setCell (by simp) _
    rw[HE.out]
    exact⟨rfl,De.set (n:=xs.length) hG hd rfl (HB.out.set_ 1 _) hbar HR.out hc hm HO.out,hbar⟩
  ·have h1':s < 1:=by omega
   have HE:=ae.mk (jR xs s (fun hh=>h1 hh.1))
   clear HD
   go_enter Tryz.func54,Tryz.ntmps54
   go_wp2
   go_ret
   have hbar:Bar [d] w (w.setCell ⟨d,1,none⟩ (.int .i64 1)):=(Bar.refl _ _).setCell (by simp) _
   rw[HE.out]
   exact⟨rfl,De.set (n:=xs.length) hG hd rfl (HB.out.set_ 1 _) hbar HR.out hc hm HO.out,hbar⟩
 ·have HE:=ae.mk (sZ (err,xs) s he)
  have he2:(err == 0)=false:=by simpa using he
  have he3:(err != 0)=true:=by simpa using he
  go_enter Tryz.func54,Tryz.ntmps54
  go_wp2
  go_ret
  rw[HE.out]
  exact⟨rfl,HD.out,Bar.refl _ _⟩
def uG (st:St) (w:World) (x:Ending) (w':World):Prop:=∃ A n c,x=.returned (.tuple #[.slice A n c,.int .i64 st.1])∧n≤c∧c≤9223372036854775807∧Rd w' A n (if st.1=0 then st.2 else [])∧Below w.heap.size w w'
theorem VG {w:World}{base size g o n c:Nat}{e:TypeId}{xs:List Value}(h:w.ownsRow base e size (.slice (some ⟨g,o,none⟩) n c) n xs):g∈(Value.slice (some ⟨g,o,none⟩) n c).ownBlock.toList:=by
 rcases h.2 with⟨h1,-⟩|⟨g',c',cur,h1,-⟩
 ·cases h1
 ·injection h1 with h1
  injection h1 with h1
  injection h1 with h1 h2
  subst h1 h2
  exact Option.mem_toList.2 rfl
def Iw (F:List Nat) (st:St) (w:World) (x:Ending) (w':World):Prop:=∃ A n c,x=.returned (.tuple #[.slice A n c,.int .i64 st.1])∧n≤c∧c≤9223372036854775807∧Rd w' A n (if st.1=0 then st.2 else [])∧Below w.heap.size w w'∧∀ b o,A=some ⟨b,o,none⟩→b∈F
theorem Iy (w:World) (F:List Nat) (e:Nat) (st:St) (h:En 158 w F e st) (hb:st.1=0→Bytes st.2) :
  Calls Tryz.prog 67 #[.pointer (some ⟨e,0,none⟩)] w (Iw F st w):=by
 obtain⟨er,xs⟩:=st
 obtain⟨v,hbk,ho,hF⟩:=h
 have c0:w.cell? ⟨e,0,none⟩=some v:=hbk.cell 0
 have c1:w.cell? ⟨e,1,none⟩=some (.int .i64 er):=hbk.cell 1
 by_cases he:er=0
 ·subst he
  obtain⟨A,cap,rfl,hc1,hc2,hr⟩:=aO ho (hb rfl)
  have HR:=ae.mk hr
  have hO:ae (∀ b o,A=some ⟨b,o,none⟩→b∈F):=⟨fun b o e=>by
   rw[hF,e]
   exact List.mem_cons_of_mem _ (VG (e▸ho))⟩
  clear ho hbk hr hb hF
  go_enter Tryz.func67,Tryz.ntmps67
  go_wp2
  go_ret2
  exact⟨A,_,cap,rfl,hc1,hc2,HR.out,Below.refl _ _,hO.out⟩
 ·have he2:(er != 0)=true:=by simpa using he
  have HE:=ae.mk he
  clear ho hbk hb he
  go_enter Tryz.func67,Tryz.ntmps67
  go_wp2
  go_quiet (fail)
  go_wp2
  go_ret2
  refine⟨none,0,0,rfl,Nat.le_refl _,by omega,?_,below_drewN (Below.refl _ _) _,fun b o e=>by cases e⟩
  rw[if_neg HE.out]
  exact Rd.nil_
theorem Iz (w:World) (F:List Nat) (e:Nat) (st:St) (h:En 158 w F e st) (hb:st.1=0→Bytes st.2) :
  Calls Tryz.prog 67 #[.pointer (some ⟨e,0,none⟩)] w (uG st w) :=
 (Iy w F e st h hb).mono fun _ _ ⟨A,n,c,h1,h2,h3,h4,h5,_⟩=>⟨A,n,c,h1,h2,h3,h4,h5⟩
end Wire
end Go.Proofs.YtlkeieoecfkkeaaGreat
