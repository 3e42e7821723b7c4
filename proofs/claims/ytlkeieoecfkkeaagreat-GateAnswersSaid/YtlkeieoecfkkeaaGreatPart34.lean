/-
  Parts laid together: FrameHead SealHead SealRHd.
-/
import Derived.Test.YtlkeieoecfkkeaaGreatPart3
import Derived.Test.YtlkeieoecfkkeaaGreatPart9
import Derived.Lib.SmallJoins
import Derived.Test.YtlkeieoecfkkeaaGreatPart4
import Derived.Test.YtlkeieoecfkkeaaGreatPart1
import Derived.Test.YtlkeieoecfkkeaaGreatPart6
set_option maxRecDepth 100000
set_option maxHeartbeats 1000000
namespace Go.Proofs.YtlkeieoecfkkeaaGreat
namespace Frame
open Go.RowKit Sha Wire
def hst (f:FV):St:=encNum (encNum (encNum (encNum (encNum (encNum (0,[]) 25446 2) f.kind 1) 0 1) f.gen 4) f.seq 4) f.body.length 4
theorem iF (e:Int) (h:e≠0) (xs:List Int) (n s:Int):encNum (e,xs) n s=(e,xs):=by unfold encNum;rw[if_neg h]
theorem zl {n s:Int}(h:fits n s=false) (xs:List Int):encNum (0,xs) n s=(1,[]):=by unfold encNum;simp[h]
theorem dD {n s:Int}(h:fits n s=true) (xs:List Int):encNum (0,xs) n s=(0,xs++be n.toNat s.toNat):=by unfold encNum;simp[h]
theorem WZ:be (Int.toNat 25446) (Int.toNat 2)=[99,102]:=by decide +kernel
theorem SK (f:FV) (hn:f.body.length≤60000):hst f=if errF f=0 then (0,dR f) else (1,[]):=by
 have hl:fits (f.body.length:Int) 4=true:=dO (by omega)
 unfold hst
 rw[dD (by decide),WZ]
 have he:errF f=if fits f.kind 1=true∧fits f.gen 4=true∧fits f.seq 4=true then 0 else 1:=by unfold errF;rw[if_neg (by omega)]
 cases f1:fits f.kind 1 with
 | false =>
  rw[zl f1,iF 1 (by omega),iF 1 (by omega),iF 1 (by omega),iF 1 (by omega),if_neg (by rw[he,f1];simp)]
 | true =>
  rw[dD f1,dD (by decide)]
  cases f2:fits f.gen 4 with
  | false=>rw[zl f2,iF 1 (by omega),iF 1 (by omega),if_neg (by rw[he,f2];simp)]
  | true =>
   rw[dD f2]
   cases f3:fits f.seq 4 with
   | false=>rw[zl f3,iF 1 (by omega),if_neg (by rw[he,f3];simp)]
   | true =>
    rw[dD f3,dD hl,if_pos (by rw[he,f1,f2,f3];simp)]
    rfl
theorem QB (f:FV) (hn:f.body.length≤60000):errF f=0∨errF f=1:=by
 unfold errF;rw[if_neg (by omega)];split<;>simp
def Hx (w0:World) (N e:Nat) (cs:Array Value) (st:St) (w:World):Prop :=
 ∃ F,En 301 w F e st∧Blk w N 231 cs∧Below w0.heap.size w0 w∧∀ k∈F,w0.heap.size+1≤k
theorem Hx.blk {w0:World}{N e:Nat}{cs:Array Value}{st:St}{w:World}(h:Hx w0 N e cs st w):Blk w N 231 cs:=h.choose_spec.2.1
theorem Hx.bel {w0:World}{N e:Nat}{cs:Array Value}{st:St}{w:World}(h:Hx w0 N e cs st w):Below w0.heap.size w0 w:=h.choose_spec.2.2.1
theorem gu {w0:World}{N e:Nat}{cs:Array Value}{st:St}{w:World}(hN:N=w0.heap.size) (h:Hx w0 N e cs st w) (x s:Int) (hl:st.2.length≤2147483648) :
  Calls Tryz.prog 164 #[.pointer (some ⟨e,0,none⟩),.int .i64 x,.int .i64 s] w fun r w'=>r=.returned (.tuple #[])∧Hx w0 N e cs (encNum st x s) w':=by
 obtain⟨F,h1,h2,h4,h5⟩:=h
 refine(aP w F e x s st h1 hl).mono ?_
 rintro r w' ⟨rfl,F',h6,hf⟩
 have hs:w0.heap.size+1≤w.heap.size:=by have:=h2.lt;omega
 have b:Below w0.heap.size w0 w':=h4.trans (hf.below (fun k hk=>by have:=h5 k hk;omega) (by omega))
 exact⟨rfl,F',h6,h2.bar hf.1 (fun hk=>by have:=h5 _ hk;omega),b,hf.least h5 hs⟩
def jC (st:St) (w:World) (x:Ending) (w':World):Prop:=∃ v,x=.returned (.tuple #[v,.int .i64 st.1])∧w'.ownsRow w.heap.size 5 1 v st.2.length (ints .u8 st.2)∧Below w.heap.size w w'
theorem qV (f:FV) (A:Option Addr) (n cap:Nat) (w:World) (hlen:f.body.length=n) (hn:n≤60000) :
  Calls Tryz.prog 252 #[.agg #[.int .i64 f.kind,.int .i64 f.gen,.int .i64 f.seq,.slice A n cap]] w (jC (hst f) w):=by
 obtain⟨N,hN⟩:∃ N,w.heap.size=N:=⟨_,rfl⟩
 have B0:=(Blk.new_at w 231 #[.int .i64 f.kind,.int .i64 f.gen,.int .i64 f.seq,.slice A n cap] N hN.symm)
 have b0:Below N w (w.alloc (.cells #[.int .i64 f.kind,.int .i64 f.gen,.int .i64 f.seq,.slice A n cap] 231)):=(Below.refl _ _).alloc (by omega) _
 have hs0:(w.alloc (.cells #[.int .i64 f.kind,.int .i64 f.gen,.int .i64 f.seq,.slice A n cap] 231)).heap.size=N+1:=by simp[hN]
 have HB0:=ae.mk B0;have Hb0:=ae.mk b0
 clear B0 b0
 go_enter Tryz.func252,Tryz.ntmps252
 go_wp2_with fail
 generalize w.alloc (.cells #[.int .i64 f.kind,.int .i64 f.gen,.int .i64 f.seq,.slice A n cap] 231)=w1 at *
 have c1:=gW w1
 rw[hs0] at c1
 refine c1.mono ?_
 clear c1
 rintro x w2 ⟨rfl,e2,f2⟩
 have T2:Hx w N (N+1) #[.int .i64 f.kind,.int .i64 f.gen,.int .i64 f.seq,.slice A n cap] (0,[]) w2 :=
  ⟨[N+1],e2,HB0.out.bar f2.1 (by simp),by rw[hN];exact Hb0.out.trans (f2.below (by simp) (by omega)),by simp[hN]⟩
 clear e2 f2 HB0 Hb0 hs0
 go_wp2_with fail
 refine(gu hN.symm T2 25446 2 (by simp)).mono ?_
 rintro x w3 ⟨rfl,T3⟩
 obtain⟨s3,e3⟩:∃ s,encNum (0,[]) 25446 2=s:=⟨_,rfl⟩
 have l3:s3.2.length≤8:=by have:=aj (0,[]) 25446 2;rw[e3] at this;simp only[List.length_nil] at this;omega
 rw[e3] at T3
 have E3:=ae.mk e3
 have t3:=T3.blk.cell 0
 clear T2 e3
 go_wp2_with fail
 refine(gu hN.symm T3 f.kind 1 (by omega)).mono ?_
 rintro x w4 ⟨rfl,T4⟩
 obtain⟨s4,e4⟩:∃ s,encNum s3 f.kind 1=s:=⟨_,rfl⟩
 have l4:s4.2.length≤16:=by have:=aj s3 f.kind 1;rw[e4] at this;omega
 rw[e4] at T4
 have E4:=ae.mk e4
 clear T3 e4 t3
 go_wp2_with fail
 refine(gu hN.symm T4 0 1 (by omega)).mono ?_
 rintro x w5 ⟨rfl,T5⟩
 obtain⟨s5,e5⟩:∃ s,encNum s4 0 1=s:=⟨_,rfl⟩
 have l5:s5.2.length≤24:=by have:=aj s4 0 1;rw[e5] at this;omega
 rw[e5] at T5
 have E5:=ae.mk e5
 have t5:=T5.blk.cell 1
 clear T4 e5
 go_wp2_with fail
 refine(gu hN.symm T5 f.gen 4 (by omega)).mono ?_
 rintro x w6 ⟨rfl,T6⟩
 obtain⟨s6,e6⟩:∃ s,encNum s5 f.gen 4=s:=⟨_,rfl⟩
 have l6:s6.2.length≤32:=by have:=aj s5 f.gen 4;rw[e6] at this;omega
 rw[e6] at T6
 have E6:=ae.mk e6
 have t6:=T6.blk.cell 2
 clear T5 e6 t5
 go_wp2_with fail
 refine(gu hN.symm T6 f.seq 4 (by omega)).mono ?_
 rintro x w7 ⟨rfl,T7⟩
 obtain⟨s7,e7⟩:∃ s,encNum s6 f.seq 4=s:=⟨_,rfl⟩
 have l7:s7.2.length≤40:=by have:=aj s6 f.seq 4;rw[e7] at this;omega
 rw[e7] at T7
 have E7:=ae.mk e7
 have t7:=T7.blk.cell 3
 clear T6 e7 t6
 go_wp2_with fail
 refine(gu hN.symm T7 n 4 (by omega)).mono ?_
 rintro x w8 ⟨rfl,T8⟩
 obtain⟨s8,e8⟩:∃ s,encNum s7 n 4=s:=⟨_,rfl⟩
 have l8:s8.2.length≤48:=by have:=aj s7 n 4;rw[e8] at this;omega
 rw[e8] at T8
 have E8:=ae.mk e8
 clear T7 e8 t7
 have hst8:hst f=s8:=by rw[← E8.out,← E7.out,← E6.out,← E5.out,← E4.out,← E3.out,← hlen];rfl
 have hb8:Bytes s8.2:=by
  rw[← hst8,SK f (by omega)]
  split
  ·exact jW f
  ·intro x hx;simp at hx
 have T8k:=ae.mk T8
 have hb:=T8.bel
 rw[hN] at hb
 have HB:=ae.mk hb
 have HS:=ae.mk hst8
 clear T8 hb l3 l4 l5 l6 l7 E3 E4 E5 E6 E7 E8 hst8
 obtain⟨F,e8,-⟩:=T8k.out
 have E8:=ae.mk e8
 have H8:=ae.mk hb8
 clear e8 T8k hb8
 go_wp2_with fail
 refine(lU w8 F (N+1) s8 E8.out H8.out (by omega)).mono ?_
 rintro x w9 ⟨v,rfl,o9,b9⟩
 have hs8:N≤w8.heap.size:=by rw[← hN];exact HB.out.size
 have O9:=ae.mk (Go.Joins.ownsRow_le (base':=N) o9 hs8)
 have B9:=ae.mk (HB.out.trans (b9.mono hs8))
 obtain⟨A9,c9,rfl⟩:=aY o9
 clear o9 b9
 go_wp2
 go_ret2
 unfold jC
 rw[HS.out,hN]
 exact⟨_,rfl,O9.out,B9.out⟩
end Frame
namespace Seal
open Go.RowKit Sha Wire
def nst (n:NV):St:=encNum (encNum (encNum (encNum (encNum (encNum (0,[]) 110 1) n.party 1) n.which 1) n.way 1) n.seq 4) n.body.length 4
theorem iF (e:Int) (h:e≠0) (xs:List Int) (n s:Int):encNum (e,xs) n s=(e,xs):=by unfold encNum;rw[if_neg h]
theorem zl {n s:Int}(h:fits n s=false) (xs:List Int):encNum (0,xs) n s=(1,[]):=by unfold encNum;simp[h]
theorem dD {n s:Int}(h:fits n s=true) (xs:List Int):encNum (0,xs) n s=(0,xs++be n.toNat s.toNat):=by unfold encNum;simp[h]
theorem fit1 {n:Int}(h:0≤n∧n < 256):fits n 1=true:=by
 unfold fits;simp only[show (256:Int) ^ (Int.toNat 1)=256 from rfl];simp;omega
theorem fit4 {n:Int}(h:0≤n∧n < 4294967296):fits n 4=true:=by
 unfold fits;simp only[show (256:Int) ^ (Int.toNat 4)=4294967296 from rfl];simp;omega
theorem Xa {n:Int}(h:¬ (0≤n∧n < 4294967296)):fits n 4=false:=by
 unfold fits;simp only[show (256:Int) ^ (Int.toNat 4)=4294967296 from rfl];simp;omega
theorem SL (n:NV) (hw:wayN n) (h0:n.seq≠0) (hl:n.body.length < 4294967296):nst n=if mayN n then (0,lI n) else (1,[]):=by
 obtain⟨h1,h2,h3,h4⟩:=hw
 unfold nst
 rw[dD (by decide),dD (fit1 ⟨h1,by omega⟩),dD (fit1 (by omega)),dD (fit1 (by omega))]
 by_cases h:mayN n
 ·rw[if_pos h,dD (fit4 ⟨by have:=h.2;omega,h.2.2⟩),dD (fit4 (by omega))]
  rfl
 ·rw[if_neg h,zl (Xa (fun k=>h ⟨⟨h1,h2,h3,h4⟩,by omega,k.2⟩)),iF 1 (by omega)]
def Hx (w0:World) (N e:Nat) (cs:Array Value) (st:St) (w:World):Prop :=
 ∃ F,En 301 w F e st∧Blk w N 54 cs∧Below w0.heap.size w0 w∧∀ k∈F,w0.heap.size+1≤k
theorem Hx.blk {w0:World}{N e:Nat}{cs:Array Value}{st:St}{w:World}(h:Hx w0 N e cs st w):Blk w N 54 cs:=h.choose_spec.2.1
theorem Hx.bel {w0:World}{N e:Nat}{cs:Array Value}{st:St}{w:World}(h:Hx w0 N e cs st w):Below w0.heap.size w0 w:=h.choose_spec.2.2.1
theorem gu {w0:World}{N e:Nat}{cs:Array Value}{st:St}{w:World}(hN:N=w0.heap.size) (h:Hx w0 N e cs st w) (x s:Int) (hl:st.2.length≤2147483648) :
  Calls Tryz.prog 164 #[.pointer (some ⟨e,0,none⟩),.int .i64 x,.int .i64 s] w fun r w'=>r=.returned (.tuple #[])∧Hx w0 N e cs (encNum st x s) w':=by
 obtain⟨F,h1,h2,h4,h5⟩:=h
 refine(aP w F e x s st h1 hl).mono ?_
 rintro r w' ⟨rfl,F',h6,hf⟩
 have hs:w0.heap.size+1≤w.heap.size:=by have:=h2.lt;omega
 have b:Below w0.heap.size w0 w':=h4.trans (hf.below (fun k hk=>by have:=h5 k hk;omega) (by omega))
 exact⟨rfl,F',h6,h2.bar hf.1 (fun hk=>by have:=h5 _ hk;omega),b,hf.least h5 hs⟩
def jC (st:St) (w:World) (x:Ending) (w':World):Prop:=∃ v,x=.returned (.tuple #[v,.int .i64 st.1])∧w'.ownsRow w.heap.size 5 1 v st.2.length (ints .u8 st.2)∧Below w.heap.size w w'
theorem qV (n:NV) (A:Option Addr) (l c:Nat) (w:World) (hlen:n.body.length=l) (hl:l < 4294967296) (hw:wayN n) (h0:n.seq≠0) :
  Calls Tryz.prog 182 #[.agg #[.int .i64 n.party,.int .i64 n.which,.int .i64 n.way,.int .i64 n.seq,.slice A l c]] w (jC (nst n) w):=by
 have hby:ae (Bytes (nst n).2):=⟨by
  rw[SL n hw h0 (by omega)]
  split
  ·exact kD n
  ·intro x hx;simp at hx⟩
 clear hw h0
 obtain⟨N,hN⟩:∃ N,w.heap.size=N:=⟨_,rfl⟩
 have B0:=(Blk.new_at w 54 #[.int .i64 n.party,.int .i64 n.which,.int .i64 n.way,.int .i64 n.seq,.slice A l c] N hN.symm)
 have b0:Below N w (w.alloc (.cells #[.int .i64 n.party,.int .i64 n.which,.int .i64 n.way,.int .i64 n.seq,.slice A l c] 54)):=(Below.refl _ _).alloc (by omega) _
 have hs0:(w.alloc (.cells #[.int .i64 n.party,.int .i64 n.which,.int .i64 n.way,.int .i64 n.seq,.slice A l c] 54)).heap.size=N+1:=by simp[hN]
 have HB0:=ae.mk B0;have Hb0:=ae.mk b0
 clear B0 b0
 go_enter Tryz.func182,Tryz.ntmps182
 go_wp2_with fail
 generalize w.alloc (.cells #[.int .i64 n.party,.int .i64 n.which,.int .i64 n.way,.int .i64 n.seq,.slice A l c] 54)=w1 at *
 have c1:=gW w1
 rw[hs0] at c1
 refine c1.mono ?_
 clear c1
 rintro x w2 ⟨rfl,e2,f2⟩
 have T2:Hx w N (N+1) #[.int .i64 n.party,.int .i64 n.which,.int .i64 n.way,.int .i64 n.seq,.slice A l c] (0,[]) w2 :=
  ⟨[N+1],e2,HB0.out.bar f2.1 (by simp),by rw[hN];exact Hb0.out.trans (f2.below (by simp) (by omega)),by simp[hN]⟩
 clear e2 f2 HB0 Hb0 hs0
 go_wp2_with fail
 refine(gu hN.symm T2 110 1 (by simp)).mono ?_
 rintro x w3 ⟨rfl,T3⟩
 obtain⟨s3,e3⟩:∃ s,encNum (0,[]) 110 1=s:=⟨_,rfl⟩
 have l3:s3.2.length≤8:=by have:=aj (0,[]) 110 1;rw[e3] at this;simp only[List.length_nil] at this;omega
 rw[e3] at T3
 have E3:=ae.mk e3
 have t3:=T3.blk.cell 0
 clear T2 e3
 go_wp2_with fail
 refine(gu hN.symm T3 n.party 1 (by omega)).mono ?_
 rintro x w4 ⟨rfl,T4⟩
 obtain⟨s4,e4⟩:∃ s,encNum s3 n.party 1=s:=⟨_,rfl⟩
 have l4:s4.2.length≤16:=by have:=aj s3 n.party 1;rw[e4] at this;omega
 rw[e4] at T4
 have E4:=ae.mk e4
 have t4:=T4.blk.cell 1
 clear T3 e4 t3
 go_wp2_with fail
 refine(gu hN.symm T4 n.which 1 (by omega)).mono ?_
 rintro x w5 ⟨rfl,T5⟩
 obtain⟨s5,e5⟩:∃ s,encNum s4 n.which 1=s:=⟨_,rfl⟩
 have l5:s5.2.length≤24:=by have:=aj s4 n.which 1;rw[e5] at this;omega
 rw[e5] at T5
 have E5:=ae.mk e5
 have t5:=T5.blk.cell 2
 clear T4 e5 t4
 go_wp2_with fail
 refine(gu hN.symm T5 n.way 1 (by omega)).mono ?_
 rintro x w6 ⟨rfl,T6⟩
 obtain⟨s6,e6⟩:∃ s,encNum s5 n.way 1=s:=⟨_,rfl⟩
 have l6:s6.2.length≤32:=by have:=aj s5 n.way 1;rw[e6] at this;omega
 rw[e6] at T6
 have E6:=ae.mk e6
 have t6:=T6.blk.cell 3
 clear T5 e6 t5
 go_wp2_with fail
 refine(gu hN.symm T6 n.seq 4 (by omega)).mono ?_
 rintro x w7 ⟨rfl,T7⟩
 obtain⟨s7,e7⟩:∃ s,encNum s6 n.seq 4=s:=⟨_,rfl⟩
 have l7:s7.2.length≤40:=by have:=aj s6 n.seq 4;rw[e7] at this;omega
 rw[e7] at T7
 have E7:=ae.mk e7
 have t7:=T7.blk.cell 4
 clear T6 e7 t6
 go_wp2_with fail
 refine(gu hN.symm T7 l 4 (by omega)).mono ?_
 rintro x w8 ⟨rfl,T8⟩
 obtain⟨s8,e8⟩:∃ s,encNum s7 l 4=s:=⟨_,rfl⟩
 have l8:s8.2.length≤48:=by have:=aj s7 l 4;rw[e8] at this;omega
 rw[e8] at T8
 have E8:=ae.mk e8
 clear T7 e8 t7
 have hst8:nst n=s8:=by rw[← E8.out,← E7.out,← E6.out,← E5.out,← E4.out,← E3.out,← hlen];rfl
 have hb8:Bytes s8.2:=by rw[← hst8];exact hby.out
 have T8k:=ae.mk T8
 have hb:=T8.bel
 rw[hN] at hb
 have HB:=ae.mk hb
 have HS:=ae.mk hst8
 clear T8 hb l3 l4 l5 l6 l7 E3 E4 E5 E6 E7 E8 hst8
 obtain⟨F,e8,-⟩:=T8k.out
 have E8:=ae.mk e8
 have H8:=ae.mk hb8
 clear e8 T8k hb8
 go_wp2_with fail
 refine(lU w8 F (N+1) s8 E8.out H8.out (by omega)).mono ?_
 rintro x w9 ⟨v,rfl,o9,b9⟩
 have hs8:N≤w8.heap.size:=by rw[← hN];exact HB.out.size
 have O9:=ae.mk (Go.Joins.ownsRow_le (base':=N) o9 hs8)
 have B9:=ae.mk (HB.out.trans (b9.mono hs8))
 obtain⟨A9,c9,rfl⟩:=aY o9
 clear o9 b9
 go_wp2
 go_ret2
 unfold jC
 rw[HS.out,hN]
 exact⟨_,rfl,O9.out,B9.out⟩
end Seal
namespace Seal
open Go.RowKit Sha Wire Mac
def Tx (w0:World) (N M:Nat) (cs:Array Value) (A:Option Addr) (n:Nat) (body:List Int) (st:St) (w:World):Prop :=
 ∃ F,En 158 w F M st∧Blk w N 54 cs∧Rd w A n body∧Below w0.heap.size w0 w∧∀ k∈F,w0.heap.size+1≤k
theorem Tx.blk {w0:World}{N M:Nat}{cs:Array Value}{A:Option Addr}{n:Nat}{body:List Int}{st:St}{w:World}(h:Tx w0 N M cs A n body st w):Blk w N 54 cs:=h.choose_spec.2.1
theorem Tx.rd {w0:World}{N M:Nat}{cs:Array Value}{A:Option Addr}{n:Nat}{body:List Int}{st:St}{w:World}(h:Tx w0 N M cs A n body st w):Rd w A n body:=h.choose_spec.2.2.1
theorem Tx.bel {w0:World}{N M:Nat}{cs:Array Value}{A:Option Addr}{n:Nat}{body:List Int}{st:St}{w:World}(h:Tx w0 N M cs A n body st w):Below w0.heap.size w0 w:=h.choose_spec.2.2.2.1
theorem Tx.below {w0:World}{N M:Nat}{cs:Array Value}{A:Option Addr}{n:Nat}{body:List Int}{st:St}{w w':World}(h:Tx w0 N M cs A n body st w) (b:Below w.heap.size w w'):Tx w0 N M cs A n body st w':=by
 obtain⟨F,h1,h2,h3,h4,h5⟩:=h
 exact⟨F,h1.below b,h2.bar (barOf b []) (by simp),h3.below b,h4.trans (b.mono (by have:=h4.size;omega)),h5⟩
theorem Tx.step {w0:World}{N M:Nat}{cs:Array Value}{A:Option Addr}{n:Nat}{body:List Int}{st':St}{w w':World}{F F':List Nat}(hN:N=w0.heap.size) (hA:Rd w0 A n body) (h2:Blk w N 54 cs) (h4:Below w0.heap.size w0 w) (h5:∀ k∈F,w0.heap.size+1≤k)
  (h1:En 158 w' F' M st') (hf:Fp F F' w w'):Tx w0 N M cs A n body st' w':=by
 have hs:w0.heap.size+1≤w.heap.size:=by have:=h2.lt;omega
 have b:Below w0.heap.size w0 w':=h4.trans (hf.below (fun k hk=>by have:=h5 k hk;omega) (by omega))
 exact⟨F',h1,h2.bar hf.1 (fun hk=>by have:=h5 _ hk;omega),hA.below b,b,hf.least h5 hs⟩
theorem qW {w0:World}{N M:Nat}{cs:Array Value}{A:Option Addr}{n:Nat}{body:List Int}{st:St}{w:World}(hN:N=w0.heap.size) (hA:Rd w0 A n body) (h:Tx w0 N M cs A n body st w) (x s:Int) (hl:st.2.length≤2147483648) :
  Calls Tryz.prog 65 #[.pointer (some ⟨M,0,none⟩),.int .i64 x,.int .i64 s] w fun e w'=>e=.returned (.tuple #[])∧Tx w0 N M cs A n body (dw st x s) w':=by
 obtain⟨F,h1,h2,h3,h4,h5⟩:=h
 refine(lV w F M x s st h1 hl).mono ?_
 rintro e w' ⟨rfl,F',h6,h7⟩
 exact⟨rfl,Tx.step hN hA h2 h4 h5 h6 h7⟩
theorem U5 {w0:World}{N M:Nat}{cs:Array Value}{A:Option Addr}{n:Nat}{body:List Int}{st:St}{w:World}(hN:N=w0.heap.size) (hA:Rd w0 A n body) (h:Tx w0 N M cs A n body st w) (B:Option Addr) (m c:Nat) (b:List Int) (hr:Rd w B m b) (hl:st.2.length+m≤4294967296) :
  Calls Tryz.prog 94 #[.pointer (some ⟨M,0,none⟩),.slice B m c] w fun e w'=>e=.returned (.tuple #[])∧Tx w0 N M cs A n body (st.1,st.2++b) w':=by
 obtain⟨F,h1,h2,h3,h4,h5⟩:=h
 refine(RP w F M B m c b st h1 hr hl).mono ?_
 rintro e w' ⟨rfl,F',h6,h7⟩
 exact⟨rfl,Tx.step hN hA h2 h4 h5 h6 h7⟩
theorem gy {n s:Int}{xs:List Int}(h:fits n s=true):dw (0,xs) n s=(0,xs++be n.toNat s.toNat):=by unfold dw;rw[h];simp
theorem Xb {w:World}{base B:Nat}{e:TypeId}{v:Value}{n:Nat}{xs:List Value}(h:w.ownsRow base e 1 v n xs) (hb:∀ g∈v.ownBlock.toList,B≤g):w.ownsRow B e 1 v n xs:=by
 obtain⟨h1,h2⟩:=h
 refine⟨h1,?_⟩
 rcases h2 with h2|⟨g,cap,cur,hv,hg,r⟩
 ·exact .inl h2
 ·exact .inr ⟨g,cap,cur,hv,hb g (by rw[hv];simp[Value.ownBlock]),r⟩
def gI (n:NV) (w:World) (e:Ending) (w':World):Prop:=∃ v,e=.returned v∧w'.ownsRow w.heap.size 5 1 v (12+n.body.length) (ints .u8 (iH n))∧Below w.heap.size w w'
theorem JE {z:Int}(h:0≤z∧z < 256):fits z 1=true:=by
 unfold fits;simp only[show (256:Int) ^ (Int.toNat 1)=256 from rfl];simp;omega
theorem Xc {z:Int}(h:0≤z∧z < 4294967296):fits z 4=true:=by
 unfold fits;simp only[show (256:Int) ^ (Int.toNat 4)=4294967296 from rfl];simp;omega
theorem Ht (n:NV) (A:Option Addr) (l c:Nat) (w:World) (hr:Rd w A l n.body) (hm:mayN n) (hl:l≤60000) :
  Calls Tryz.prog 52 #[.agg #[.int .i64 n.party,.int .i64 n.which,.int .i64 n.way,.int .i64 n.seq,.slice A l c]] w (gI n w):=by
 have hlen:=hr.1
 have HR:=ae.mk hr
 have p1:=JE (z:=n.party) ⟨hm.1.1,by have:=hm.1.2.1;omega⟩
 have p2:=JE (z:=n.which) (by have:=hm.1.2.2.1;omega)
 have p3:=JE (z:=n.way) (by have:=hm.1.2.2.2;omega)
 have p4:=Xc (z:=n.seq) (by have:=hm.2;omega)
 have p5:=Xc (z:=(l:Int)) (by omega)
 have P1:=ae.mk p1;have P2:=ae.mk p2;have P3:=ae.mk p3;have P4:=ae.mk p4;have P5:=ae.mk p5
 clear hr p1 p2 p3 p4 p5 hm
 obtain⟨W2,hW2⟩:∃ W2,(w.alloc (.cells #[.int .i64 n.party,.int .i64 n.which,.int .i64 n.way,.int .i64 n.seq,.slice A l c] 54)).alloc (.cells #[.slice none 0 0,.int .i64 0] 158)=W2:=⟨_,rfl⟩
 have hsz:W2.heap.size=w.heap.size+1+1:=by subst hW2;simp
 have bel2:Below w.heap.size w W2:=by subst hW2;exact((Below.refl _ _).alloc (Nat.le_refl _) _).alloc (by simp) _
 have T2:Tx w w.heap.size (w.heap.size+1) #[.int .i64 n.party,.int .i64 n.which,.int .i64 n.way,.int .i64 n.seq,.slice A l c] A l n.body (0,[]) W2:=by
  refine⟨[w.heap.size+1],⟨.slice none 0 0,?_,World.ownsRow_nil _ _ _ _,by simp[Value.ownBlock]⟩,?_,HR.out.below bel2,bel2,by simp⟩
  ·subst hW2;exact Blk.new_at _ _ _ _ (by simp)
  ·subst hW2;exact(Blk.new _ _ _).alloc _
 have hcv:=Go.Joins.run_convert_bytes_const_at (P:=Tryz.prog) W2 22 5 #[.int .u8 110] 1 1 (w.heap.size+1+1) hsz.symm Tryz.underlying22 Tryz.underlying5
 go_enter Tryz.func52,Tryz.ntmps52
 go_wp2_with fail
 have hr2:Rd (W2.alloc (.cells #[.int .u8 110] 5 (1,2))) (some ⟨w.heap.size+1+1,0,none⟩) 1 [110] :=
  Rd.made (T:=5) (fr:=(1,2)) (by rw[← hsz];exact heap_alloc_new W2 _) (by intro x hx;simp at hx;omega) rfl
 refine(U5 rfl HR.out (T2.below ((Below.refl _ _).alloc (Nat.le_refl _) _)) (some ⟨w.heap.size+1+1,0,none⟩) 1 1 [110] hr2 (by simp)).mono ?_
 rintro x w3 ⟨rfl,T3⟩
 have t0:=T3.blk.cell 0
 clear T2 hcv hW2 bel2 hr2
 go_wp2_with fail
 refine(qW rfl HR.out T3 n.party 1 (by simp)).mono ?_
 rintro x w4 ⟨rfl,T4⟩
 rw[gy P1.out] at T4
 have t1:=T4.blk.cell 1
 clear T3 t0
 go_wp2_with fail
 refine(qW rfl HR.out T4 n.which 1 (by simp[aJ])).mono ?_
 rintro x w5 ⟨rfl,T5⟩
 rw[gy P2.out] at T5
 have t2:=T5.blk.cell 2
 clear T4 t1
 go_wp2_with fail
 refine(qW rfl HR.out T5 n.way 1 (by simp[aJ])).mono ?_
 rintro x w6 ⟨rfl,T6⟩
 rw[gy P3.out] at T6
 have t3:=T6.blk.cell 3
 clear T5 t2
 go_wp2_with fail
 refine(qW rfl HR.out T6 n.seq 4 (by simp[aJ])).mono ?_
 rintro x w7 ⟨rfl,T7⟩
 rw[gy P4.out] at T7
 have t4:=T7.blk.cell 4
 clear T6 t3
 go_wp2_with fail
 refine(qW rfl HR.out T7 l 4 (by simp[aJ])).mono ?_
 rintro x w8 ⟨rfl,T8⟩
 rw[gy P5.out] at T8
 clear T7 t4
 have hst:[]++[110]++be n.party.toNat (Int.toNat 1)++be n.which.toNat (Int.toNat 1)++be n.way.toNat (Int.toNat 1)++be n.seq.toNat (Int.toNat 4)++be (l:Int).toNat (Int.toNat 4)=lI n:=by
  unfold lI;rw[hlen];rfl
 rw[hst] at T8
 clear hst
 have t4:=T8.blk.cell 4
 obtain⟨F,⟨v8,b8,o8,hF⟩,nb8,rd8,bel8,hF8⟩:=T8
 have OB:w8.ownsRow w.heap.size 5 1 v8 12 (ints .u8 (lI n)):=by
  have:=Xb o8 (B:=w.heap.size) (fun g hg=>by
   have:=hF8 g (by rw[hF];exact List.mem_cons_of_mem _ hg)
   omega)
  rw[lJ] at this
  exact this
 obtain⟨A8,c8,rfl⟩:=aY OB
 have q0:w8.cell? ⟨w.heap.size+1,0,none⟩=some (.slice A8 12 c8):=b8.cell 0
 have FE:ae (w.heap.size+1∉(Value.slice A8 12 c8).ownBlock.toList):=⟨fun hm=>bK OB b8 (by decide) (by simpa using hm)⟩
 have FN:ae (w.heap.size∉(Value.slice A8 12 c8).ownBlock.toList):=⟨fun hm=>bK OB nb8 (by decide) (by simpa using hm)⟩
 have O8:=ae.mk OB
 have R8:=ae.mk rd8
 have B8:=ae.mk bel8
 clear o8 b8 nb8 hF hF8 OB rd8 bel8
 go_upto_region 8 with(fail)
 refine wp_region_noPanic ?_
 refine wp_region_held_drew (S:=fun w':World=>w'.cell? ⟨w.heap.size+1,0,none⟩=some (.slice A8 12 c8)∧w'.cell? ⟨w.heap.size,4,none⟩=some (.slice A l c)) (by kernel_rfl) ⟨q0,t4⟩ (fun _=>?_)
 have O9:ae (w8.drew.ownsRow w.heap.size 5 1 (.slice A8 12 c8) 12 (ints .u8 (lI n))):=⟨own_keep O8.out (barOf ((Below.refl _ _).drew) []) (fun _ _=>by simp)⟩
 have R9:=ae.mk R8.out.drew
 have B9:=ae.mk B8.out.drew
 have q1:w8.drew.cell? ⟨w.heap.size+1,0,none⟩=some (.slice A8 12 c8):=q0
 have t5:w8.drew.cell? ⟨w.heap.size,4,none⟩=some (.slice A l c):=t4
 clear O8 R8 B8 q0 t4
 generalize w8.drew=w9 at *
 refine tk 0 ?_
 simp only[Act.put,zA,zB,zC]
 refine tk 1 ?_
 simp only[Act.put,zA,zB,zC]
 refine tk 2 ?_
 simp only[Act.put,zA,zB,zC]
 refine tk 3 ?_
 simp only[Act.put,zA,zB,zC]
 refine tk 4 ?_
 simp only[Act.put,zA,zB,zC]
 refine tk 5 ?_
 simp only[Act.put,zA,zB,zC]
 refine ld 6 (fun K hK=>?_)
 refine su rfl (.tmp 34) (.tmp 36) 22 (by rfl) w.heap.size 5 Tryz.underlying22 ax _ 12 _ (by rfl) O9.out A l c n.body (by rfl) R9.out (by omega) B9.out.size ?_
 intro v11 w11 o11 g11 b11 a11
 have C11:w11.cell? ⟨w.heap.size+1,0,none⟩=some (.slice A8 12 c8)∧w11.cell? ⟨w.heap.size,4,none⟩=some (.slice A l c):=⟨FO q1 (Bar.grownRow g11) FE.out,FO t5 (Bar.grownRow g11) FN.out⟩
 refine hK.out _ _ C11 (fun _=>?_)
 replace o11:=o11.out
 rw[← af] at o11
 have PF:ae (gI n w (.returned v11) w11):=⟨v11,rfl,by rw[hlen];exact o11,B9.out.trans b11⟩
 clear hK K q1 t5 o11 g11 b11 a11 C11
 try simp only[Act.put,zA,zB,zC]
 refine tk 7 ?_
 simp only[Act.put,zA,zB,zC]
 refine wpAnyH_done (by kernel_rfl) ?_ _
 refine NoPanic.normal ?_
 go_wp2
 go_ret
 exact PF.out
end Seal
end Go.Proofs.YtlkeieoecfkkeaaGreat
