/-
  Parts laid together: JWrite JStore.
-/
import Derived.Test.YtlkeieoecfkkeaaGreatPart24
import Derived.Test.YtlkeieoecfkkeaaGreatPart3
import Derived.Test.YtlkeieoecfkkeaaGreatPart17
set_option maxRecDepth 100000
set_option maxHeartbeats 2000000
namespace Go.Proofs.YtlkeieoecfkkeaaGreat
namespace Journal
open Go.RowKit Sha Disk Go.Proofs.YtlkeieoecfkkeaaGreat.Frame
attribute [local go_sem] Oper.semAt_some
theorem qB {w w':World}{row:Option Nat}(h:w.grownBy w' row):Bar row.toList w w':=⟨h.os,h.tape,h.output,h.size,fun k hk hn=>h.block k hk (fun he=>hn (by simp[← he]))⟩
def WI (w:World) (F:List Nat) (d n:Nat) (z res:Int) (s:DS) (W:World):Prop :=
 Dk W F d n s∧Bar F w W∧W.cell? ⟨w.heap.size,0,none⟩=some (.pointer (some ⟨d,0,none⟩))∧W.cell? ⟨w.heap.size+1,0,none⟩=some (.int .i64 z)∧W.frozen? ⟨w.heap.size+1,0,none⟩=false ∧
  W.cell? ⟨w.heap.size+1+1,0,none⟩=some (.int .i64 res)∧W.frozen? ⟨w.heap.size+1+1,0,none⟩=false
theorem Sz {w W W':World}{F:List Nat}{d n B:Nat}{z res:Int}{s:DS}{row:Option Nat}(h:WI w F d n z res s W) (hF:∀ k∈F,k < w.heap.size) (hB:w.heap.size≤B) (hg:W.grownBy W' row) (hr:∀ r,row=some r→B≤r∧∃ o:Obj,W.heap[r]?=some o∧o.isCells=false):WI w F d n z res s W':=by
 obtain⟨h1,h2,h3,h4,h5,h6,h7⟩:=h
 have hd:Disj F row.toList:=fun k hk hm=>by
  have:=hF k hk
  have:=(hr k (by simpa using hm)).1
  omega
 have hc:=fun r e=>(hr r e).2
 exact⟨h1.keep (qB hg) hd,h2.trans (qB hg) (fun x hx=>.inr (by have:=(hr x (by simpa using hx)).1;omega)),cell_kept h3 hg hc,cell_kept h4 hg hc,(frozen_kept h4 hg hc).trans h5,cell_kept h6 hg hc,(frozen_kept h6 hg hc).trans h7⟩
theorem vT {w W W':World}{F:List Nat}{d n:Nat}{z res:Int}{s s':DS}(h:WI w F d n z res s W) (hF:∀ k∈F,k < w.heap.size) (k1:Dk W' F d n s') (k2:Bar F W W'):WI w F d n z res s' W':=by
 obtain⟨h1,h2,h3,h4,h5,h6,h7⟩:=h
 have hb:∀ j v,W.cell? ⟨w.heap.size+j,0,none⟩=some v→W'.cell? ⟨w.heap.size+j,0,none⟩=some v∧W'.frozen? ⟨w.heap.size+j,0,none⟩=W.frozen? ⟨w.heap.size+j,0,none⟩:=fun j v hv=>by
  have e:=k2.block (w.heap.size+j) (World.block_lt_of_cell? _ _ hv) (fun hm=>by have:=hF _ hm;omega)
  exact⟨(World.cell?_of_block e).trans hv,by unfold World.frozen?;simp only;rw[e]⟩
 exact⟨k1,h2.trans k2 (fun x hx=>.inl hx),(hb 0 _ h3).1,(hb 1 _ h4).1,(hb 1 _ h4).2.trans h5,(hb (1+1) _ h6).1,(hb (1+1) _ h6).2.trans h7⟩
theorem yC {F:List Nat}{W W':World}{B:Nat}(h:Bar F W W') (hF:∀ k∈F,k < B):KeepsFrom B W W':=⟨h.size,fun k o hB hk _=>(h.block k (Array.getElem?_eq_some_iff.1 hk).1 (fun hm=>by have:=hF k hm;omega)).trans hk⟩
theorem JY {F:List Nat}{W W':World}{x y:Nat}(h:Bar F W W') (hx:x∉F) (hy:y∉F):Two x y W W' :=
 ⟨fun _ hv=>(World.cell?_of_block (h.block x (World.block_lt_of_cell? _ _ hv) hx)).trans hv,fun _ hv=>(World.cell?_of_block (h.block y (World.block_lt_of_cell? _ _ hv) hy)).trans hv⟩
theorem Uz {w W:World}{F:List Nat}{d n:Nat}{z res:Int}{s:DS}(h:WI w F d n z res s W) (hF:∀ k∈F,k < w.heap.size) (z':Int):WI w F d n z' res s (W.setCell ⟨w.heap.size+1,0,none⟩ (.int .i64 z')):=by
 obtain⟨h1,h2,h3,h4,h5,h6,h7⟩:=h
 have hb:Bar [w.heap.size+1] W (W.setCell ⟨w.heap.size+1,0,none⟩ (.int .i64 z')):=(Bar.refl _ _).setCell (by simp) _
 have ho:∀ x v,x≠w.heap.size+1→W.cell? ⟨x,0,none⟩=some v→(W.setCell ⟨w.heap.size+1,0,none⟩ (.int .i64 z')).cell? ⟨x,0,none⟩=some v:=fun x v hx hv=>(World.cell?_of_block (hb.block x (World.block_lt_of_cell? _ _ hv) (by simpa using hx))).trans hv
 exact⟨h1.keep hb (fun q hq=>by have:=hF q hq;simp;omega),h2.trans hb (fun x hx=>.inr (by simp at hx;omega)),ho _ _ (by omega) h3,World.cell?_setCell_same' _ _ _ (by rw[h4];rfl),by rw[World.frozen?_setCell];exact h5,ho _ _ (by omega) h6,by rw[World.frozen?_setCell];exact h7⟩
theorem UA {w W:World}{F:List Nat}{d n:Nat}{z res:Int}{s:DS}(h:WI w F d n z res s W) (hF:∀ k∈F,k < w.heap.size) (r':Int):WI w F d n z r' s (W.setCell ⟨w.heap.size+1+1,0,none⟩ (.int .i64 r')):=by
 obtain⟨h1,h2,h3,h4,h5,h6,h7⟩:=h
 have hb:Bar [w.heap.size+1+1] W (W.setCell ⟨w.heap.size+1+1,0,none⟩ (.int .i64 r')):=(Bar.refl _ _).setCell (by simp) _
 have ho:∀ x v,x≠w.heap.size+1+1→W.cell? ⟨x,0,none⟩=some v→(W.setCell ⟨w.heap.size+1+1,0,none⟩ (.int .i64 r')).cell? ⟨x,0,none⟩=some v:=fun x v hx hv=>(World.cell?_of_block (hb.block x (World.block_lt_of_cell? _ _ hv) (by simpa using hx))).trans hv
 exact⟨h1.keep hb (fun q hq=>by have:=hF q hq;simp;omega),h2.trans hb (fun x hx=>.inr (by simp at hx;omega)),ho _ _ (by omega) h3,ho _ _ (by omega) h4,by rw[World.frozen?_setCell];exact h5,World.cell?_setCell_same' _ _ _ (by rw[h6];rfl),by rw[World.frozen?_setCell];exact h7⟩
theorem UB (x y q:Nat) (W:World) (v:Value) (hx:x≠q) (hy:y≠q):Two x y W (W.setCell ⟨q,0,none⟩ v):=JY (F:=[q]) ((Bar.refl _ _).setCell (by simp) _) (by simpa using hx) (by simpa using hy)
theorem tX (W:World) (D:Nat) (o:Obj):Bar [D] W (W.putObj D o):=qB (row:=some D) (grownBy_putObj' W D o)
theorem Wp {w W w':World}{F F':List Nat}{d n:Nat}{s2:DS}{D:Nat}{c2 v:Value}(hF:∀ k∈F,k < w.heap.size) (hWb:Bar F w W) (dk:Dk w' F' d n s2) (fp:Fp F F' W w') (hc:W.cell? ⟨w.heap.size+1+1,0,none⟩=some c2) (hD:w.heap.size+5≤D) (hK:W.heap[D]?=some (.deferred (some []))) :
  w'.cell? ⟨w.heap.size+1+1,0,none⟩=some c2∧w'.frozen? ⟨w.heap.size+1+1,0,none⟩=W.frozen? ⟨w.heap.size+1+1,0,none⟩∧(w'.setCell ⟨w.heap.size+1+1,0,none⟩ v).heap[D]?=some (.deferred (some [])) ∧
  ((w'.setCell ⟨w.heap.size+1+1,0,none⟩ v).putObj D (.deferred none)).cell? ⟨w.heap.size+1+1,0,none⟩=some v∧Dk ((w'.setCell ⟨w.heap.size+1+1,0,none⟩ v).putObj D (.deferred none)) F' d n s2∧Fp F F' w ((w'.setCell ⟨w.heap.size+1+1,0,none⟩ v).putObj D (.deferred none)):=by
 have hlt:w.heap.size+1+1 < W.heap.size:=World.block_lt_of_cell? _ _ hc
 have hDl:D < W.heap.size:=(Array.getElem?_eq_some_iff.1 hK).1
 have e:=fp.1.block (w.heap.size+1+1) hlt (fun hm=>by have:=hF _ hm;omega)
 have eD:=fp.1.block D hDl (fun hm=>by have:=hF _ hm;omega)
 have hc':w'.cell? ⟨w.heap.size+1+1,0,none⟩=some c2:=(World.cell?_of_block e).trans hc
 have hb1:Bar [w.heap.size+1+1] w' (w'.setCell ⟨w.heap.size+1+1,0,none⟩ v):=(Bar.refl _ _).setCell (by simp) _
 have hK2:(w'.setCell ⟨w.heap.size+1+1,0,none⟩ v).heap[D]?=some (.deferred (some [])):=(hb1.block D (by have:=fp.1.size;omega) (by simp;omega)).trans (eD.trans hK)
 have hb2:=tX (w'.setCell ⟨w.heap.size+1+1,0,none⟩ v) D (.deferred none)
 have far:∀ k∈F',k≠w.heap.size+1+1∧k≠D:=fun k hk=>by
  rcases fp.2 k hk with h1|h1
  ·have:=hF k h1;omega
  ·omega
 have hbb:Bar F w ((w'.setCell ⟨w.heap.size+1+1,0,none⟩ v).putObj D (.deferred none)):=((hWb.trans fp.1 (fun x hx=>.inl hx)).trans hb1 (fun x hx=>.inr (by simp at hx;omega))).trans hb2 (fun x hx=>.inr (by simp at hx;omega))
 refine⟨hc',by unfold World.frozen?;simp only;rw[e],hK2,cell_kept (World.cell?_setCell_same' _ _ _ (by rw[hc'];rfl)) (grownBy_putObj' _ D (.deferred none)) (fun r e=>by cases e;exact⟨_,hK2,rfl⟩),
  (dk.keep hb1 (fun k hk=>by simpa using (far k hk).1)).keep hb2 (fun k hk=>by simpa using (far k hk).2),hbb,fun k hk=>?_⟩
 rcases fp.2 k hk with h1|h1
 ·exact .inl h1
 ·exact .inr (Nat.le_trans hWb.size h1)
theorem Qe (w:World) (t0 t1 t2 t3 t4:TypeId) (c0 c1 c2 c3 c4:Value):∃ W0,(((((w.alloc (.cells #[c0] t0)).alloc (.cells #[c1] t1)).alloc (.cells #[c2] t2)).alloc (.cells #[c3] t3)).alloc (.cells #[c4] t4))=W0∧W0.heap.size=w.heap.size+5∧Below w.heap.size w W0 ∧
  Blk W0 w.heap.size t0 #[c0]∧Blk W0 (w.heap.size+1) t1 #[c1]∧Blk W0 (w.heap.size+1+1) t2 #[c2]∧Blk W0 (w.heap.size+1+1+1) t3 #[c3]∧Blk W0 (w.heap.size+1+1+1+1) t4 #[c4] :=
 ⟨_,rfl,by simp,(((((Below.refl _ w).alloc (Nat.le_refl _) _).alloc (by simp) _).alloc (by simp;omega) _).alloc (by simp;omega) _).alloc (by simp;omega) _,
  ((((Blk.new w _ _).alloc _).alloc _).alloc _).alloc _,(((Blk.new_at _ _ _ _ (by simp)).alloc _).alloc _).alloc _,((Blk.new_at _ _ _ _ (by simp)).alloc _).alloc _,(Blk.new_at _ _ _ _ (by simp)).alloc _,Blk.new_at _ _ _ _ (by simp)⟩
theorem tY {w:World}{F:List Nat}{d n:Nat}{s:DS}(h:Dk w F d n s) (home k c g o:Nat) {b:List Int}(hk0:0 < k) (hk9:k≤100000) (hh9:home≤100000) (hr:Rd w (some ⟨g,o,none⟩) (64 * k) b) (hc:64 * k≤c) (hO:g∉F) :
  Calls Tryz.prog 254 #[.pointer (some ⟨d,0,none⟩),.int .i64 (home:Nat),.slice (some ⟨g,o,none⟩) (64 * k) c] w (StepPost (fun w' F' s'=>Dk w' F' d n s') w F (writeJ b home k s)):=by
 have hF:=h.lts
 have HR:ae (∀ W,Bar F w W→∀ x,x < k→Rd W (some ⟨g,o+64 * x,none⟩) 64 (piece b x)):=⟨fun W hb x hx=>by
  have r1:Rd W (some ⟨g,o,none⟩) (64 * k) b:=hr.far hb (.inr ⟨g,o,rfl,hO⟩)
  obtain⟨a1,a2,a3⟩:=r1
  have a4:=a3.resolve_left (by omega)
  obtain⟨g',o',e,hcell⟩:=a4
  injection e with e;injection e with e1 e2
  subst e1 e2
  refine⟨by unfold piece;rw[List.length_take,List.length_drop,a1];omega,(a2.drop _).take _,.inr ⟨g,o+64 * x,rfl,fun i hi=>?_⟩⟩
  rw[Nat.add_assoc,hcell _ (by omega)]
  unfold piece
  rw[bY hi,jQ]⟩
 have hlen:=hr.1
 clear hr
 refine(callsIn_wide (n:=3)).1 ?_
 refine callsIn_of_wp_marks Tryz.func254 rfl trivial ?_ rfl
 simp only[Tryz.ntmps254,List.size_toArray,List.length_cons,List.length_nil,Nat.reduceAdd,Nat.reduceSub,Array.replicate_succ,Array.replicate_zero,List.push_toArray,List.append_toArray,List.nil_append,List.cons_append]
 gi_wp2_with (refine⟨trivial,?_⟩;gi_at_call 268;refine(callsIn_wide.2 (JW _ _ _ _)).mono ?_;rintro e w' ⟨rfl,rfl⟩)
 obtain⟨W0,hW0,hsz,bel,k0,k1,k2,k3,k4⟩:=Qe w 42 3 26 22 3 (.pointer (some ⟨d,0,none⟩)) (.int .i64 (home:Nat)) (.int .i64 0) (.slice (some ⟨g,o,none⟩) (64 * k) c) (.int .i64 64)
 rw[hW0]
 have HW:=ae.mk (show WI w F d n ((home:Nat):Int) 0 s W0 from⟨h.keep (barOf bel []) (fun _ _=>by simp),barOf bel _,k0.cell 0,k1.cell 0,k1.frozen 0,k2.cell 0,k2.frozen 0⟩)
 have e3:=k3.cell 0
 have e4:=k4.cell 0
 clear hW0 k0 k1 k2 k3 k4 h
 have hFB:∀ q∈F,q < W0.heap.size:=fun q hq=>by have:=hF q hq;omega
 obtain⟨B,hB⟩:∃ B,W0.heap.size=B:=⟨_,rfl⟩
 have hNB:w.heap.size+5=B:=by omega
 let fd:List (Fin k)→Nat × Int × DS:=fun pre=>(pre.map (·.1)).foldl (stepW b home) (0,0,s)
 have fd1:∀ pre x,fd (pre++[x])=stepW b home (fd pre) x.1:=fun pre x=>by simp only[fd,List.map_append,List.map_cons,List.map_nil,List.foldl_append,List.foldl_cons,List.foldl_nil]
 have fd2:∀ pre,(fd pre).1≤pre.length:=fun pre=>by have:=Lr b home (pre.map (·.1)) (0,0,s);simpa [fd] using this
 have fd3:(fd (ups k hk0 k)).2=rowsJ b home k 0 s:=by simp only[fd];rw[JU hk0 k (Nat.le_refl _)];exact zh b home k s
 have fd4:∀ m,m≤k→(fd (ups k hk0 m)).2.1≠0→(fd (ups k hk0 m)).2=rowsJ b home k 0 s:=fun m hm=>by simp only[fd];rw[JU hk0 m hm];exact He b home k m s hm
 have fd0:fd []=(0,0,s):=rfl
 generalize fd=fd at *
 refine wpIn_rangeFunc_ownG (F:=Fence.wide) (n:=3) rfl (by omega) (α:=Fin k) (gf:=280) (lb:=#[.pointer (some ⟨w.heap.size+1+1+1,0,none⟩),.pointer (some ⟨w.heap.size+1+1+1+1,0,none⟩)]) rfl trivial (enters_of Tryz.func280 (by kernel_rfl) rfl)
  (encs:=fun x=>#[.slice (some ⟨g,o+64 * x.1,none⟩) 64 64]) (Kp:=Two (w.heap.size+1+1+1) (w.heap.size+1+1+1+1)) (S:=fun ys=>ys=ups k hk0 k) (Sp:=fun pre=>∃ m,m≤k∧pre=ups k hk0 m) (N:=k) (w0:=W0)
  (fun l J Jx W hW hJ _ hY h0=>JX 2 (by omega) l _ _ g o k c hk0 hc hk9 J Jx W hJ hY ((hW.cell (p:=⟨w.heap.size+1+1+1,0,none⟩) (by simp only;omega)).trans e3) ((hW.cell (p:=⟨w.heap.size+1+1+1+1,0,none⟩) (by simp only;omega)).trans e4) h0)
  Wn (fun W l o o' _ h ho _=>XK W l o o' h ho) (Below.refl _ _) (fun _=>rfl)
  (fun pre W=>(fd pre).2.1=0∧WI w F d n ((home:Int)+(fd pre).1) 0 (fd pre).2.2 W)
  (fun c pre W=>c=.ret∧(fd pre).2.1≠0∧∃ z,WI w F d n z (fd pre).2.1 (fd pre).2.2 W)
  (fun pre A C row hs hg hr=>⟨hs.1,Sz hs.2 hF (by omega) hg hr⟩)
  (fun c pre A C row hs hg hr=>by obtain⟨h1,h2,z,h3⟩:=hs;exact⟨h1,h2,z,Sz h3 hF (by omega) hg hr⟩)
  ⟨by rw[fd0],by rw[fd0];simpa using HW.out⟩
  (fun x=>{ tmps:=#[.pointer (some ⟨d,0,none⟩),.int .i64 (home:Nat),.slice (some ⟨g,o,none⟩) (64 * k) c,.pointer (some ⟨w.heap.size,0,none⟩),.pointer (some ⟨w.heap.size+1,0,none⟩),undef,.pointer (some ⟨w.heap.size+1+1,0,none⟩),.slice (some ⟨g,o+64 * x.1,none⟩) 64 64,undef,.slice (some ⟨g,o,none⟩) (64 * k) c,.func (.func 280) #[] #[.pointer (some ⟨w.heap.size+1+1+1,0,none⟩),.pointer (some ⟨w.heap.size+1+1+1+1,0,none⟩)],.slice (some ⟨g,o+64 * x.1,none⟩) 64 64,undef,undef,undef,undef,undef,undef,undef,undef,undef,undef,undef],defers:=[] }) ?assign ?body ?done ?stop
 case assign =>
  intro l x W K hK
  gi_wp2
  exact hK
 case body =>
  rintro l pre x W ⟨hz,hw⟩ hlen2
  have hp:=fd2 pre
  obtain⟨q,s1,hq⟩:∃ q s1,fd pre=(q,0,s1):=⟨(fd pre).1,(fd pre).2.2,Prod.ext rfl (Prod.ext hz rfl)⟩
  have hst:fd (pre++[x])=(q+1,writeD s1 ((home:Int)+q) (piece b x.1)):=by rw[fd1,hq];unfold stepW;rw[if_pos rfl,Int.natCast_add]
  rw[hq] at hw hp
  simp only at hw hp
  have cw:=ae.mk (Bg ((home:Int)+q) (c:=64) hw.1 (HR.out W hw.2.1 x.1 x.2) (.inr ⟨g,_,rfl,hO⟩))
  obtain⟨re,s2,hre⟩:∃ re s2,writeD s1 ((home:Int)+q) (piece b x.1)=(re,s2):=⟨_,_,rfl⟩
  rw[hre] at cw hst
  have HWW:=ae.mk hw
  have HST:=ae.mk hst
  have c0:=hw.2.2.1
  have c1:=hw.2.2.2.1
  clear hw hst hq hz fd1 fd2 fd3 fd4 fd0 hre HW
  have hW1:wrap64 ((home:Int)+q+1)=(home:Int)+q+1:=by unfold wrap64;omega
  by_cases h0:re=0
  ·subst h0
   gi_wp2_with (refine⟨trivial,?_⟩;gi_at_call 269;refine(CallsIn.inRound l (callsIn_wide.2 cw.out)).mono ?_;rintro e w' ⟨rfl,dk,br⟩;have HWB:=ae.mk (vT HWW.out hF dk br);have HBR:=ae.mk br;have c1':=HWB.out.2.2.2.1;have f1':=HWB.out.2.2.2.2.1;clear dk br cw c1 c0)
   refine⟨(yC HBR.out hFB).trans ((KeepsOthers.setCell _ _ _).from _),Wn (JY HBR.out (fun hm=>by have:=hF _ hm;omega) (fun hm=>by have:=hF _ hm;omega)) (UB _ _ _ _ _ (by omega) (by omega)),?_⟩
   show (fd (pre++[x])).2.1=0∧WI w F d n ((home:Int)+(fd (pre++[x])).1) 0 (fd (pre++[x])).2.2 _
   rw[HST.out]
   refine⟨rfl,?_⟩
   have:=Uz HWB.out hF ((home:Int)+q+1)
   simp only[Int.natCast_add,Int.natCast_one]
   rw[← Int.add_assoc]
   exact this
  ·gi_wp2_with (refine⟨trivial,?_⟩;gi_at_call 269;refine(CallsIn.inRound l (callsIn_wide.2 cw.out)).mono ?_;rintro e w' ⟨rfl,dk,br⟩;have HWB:=ae.mk (vT HWW.out hF dk br);have HBR:=ae.mk br;have c2':=HWB.out.2.2.2.2.2.1;have f2':=HWB.out.2.2.2.2.2.2;clear dk br cw c1 c0)
   refine⟨(yC HBR.out hFB).trans ((KeepsOthers.setCell _ _ _).from _),rfl,?_⟩
   show (fd (pre++[x])).2.1≠0∧∃ z,WI w F d n z (fd (pre++[x])).2.1 (fd (pre++[x])).2.2 _
   rw[HST.out]
   exact⟨h0,_,UA HWB.out hF re⟩
 case done =>
  rintro D ys W hD rfl ⟨hz,hw⟩ hK
  have hrow:rowsJ b home k 0 s=(0,(fd (ups k hk0 k)).2.2):=by rw[← fd3];exact Prod.ext hz rfl
  have hwj:writeJ b home k s=syncD (fd (ups k hk0 k)).2.2:=by unfold writeJ;rw[hrow];rfl
  obtain⟨s1,hs1⟩:∃ s1,(fd (ups k hk0 k)).2.2=s1:=⟨_,rfl⟩
  rw[hs1] at hw hwj
  obtain⟨re,s2,hre⟩:∃ re s2,syncD s1=(re,s2):=⟨_,_,rfl⟩
  rw[hre] at hwj
  have HWJ:=ae.mk hwj
  have cs:=ae.mk (Jg hw.1)
  rw[hre] at cs
  have HWW:=ae.mk hw
  have c0:=hw.2.2.1
  clear hw fd1 fd2 fd3 fd4 fd0 HW hz hrow hwj hs1 hre
  gi_wp2_with (refine⟨trivial,?_⟩;gi_at_call 270;refine(callsIn_wide.2 cs.out).mono ?_;rintro e w' ⟨rfl,F',dk,fp⟩;obtain⟨g1,g2,g3,g4,g5,g6⟩:=Wp (v:=.int .i64 re) hF HWW.out.2.1 dk fp HWW.out.2.2.2.2.2.1 (by omega) hK;rw[HWW.out.2.2.2.2.2.2] at g2;have G5:=ae.mk g5;have G6:=ae.mk g6;clear g5 g6 dk fp cs c0 hK)
  refine⟨by simp,.inl ⟨_,_,rfl,run_takeDeferred g3,?_⟩⟩
  refine⟨.int .i64 re,?_,?_⟩
  ·simp[results,Tryz.f254,go_sem,g4]
  ·rw[HWJ.out]
   exact⟨rfl,F',G5.out,G6.out⟩
 case stop =>
  rintro D c pre W hD ⟨m,hm,rfl⟩ ⟨rfl,hz,z,hw⟩ hK
  have hrow:rowsJ b home k 0 s=(fd (ups k hk0 m)).2:=(fd4 m hm hz).symm
  have hwj:writeJ b home k s=(fd (ups k hk0 m)).2:=by unfold writeJ;rw[hrow];unfold mW;rw[if_neg hz]
  obtain⟨re,s2,hre⟩:∃ re s2,(fd (ups k hk0 m)).2=(re,s2):=⟨_,_,rfl⟩
  rw[hre] at hwj hw
  have HWJ:=ae.mk hwj
  have hD2:w.heap.size+5≤D:=by omega
  have hKb:=tX W D (.deferred none)
  have hfar:D∉F:=fun hm=>by have:=hF _ hm;omega
  have G4:(W.putObj D (.deferred none)).cell? ⟨w.heap.size+1+1,0,none⟩=some (.int .i64 re):=cell_kept hw.2.2.2.2.2.1 (grownBy_putObj' W D (.deferred none)) (fun r e=>by cases e;exact⟨_,hK,rfl⟩)
  have G5:ae (StepPost (fun w' F' s'=>Dk w' F' d n s') w F (writeJ b home k s) (.returned (.int .i64 re)) (W.putObj D (.deferred none))):=⟨by
   rw[hwj]
   exact⟨rfl,F,hw.1.keep hKb (fun k hk=>by simp;intro h;exact hfar (h▸hk)),hw.2.1.trans hKb (fun x hx=>.inr (by simp at hx;omega)),fun k hk=>.inl hk⟩⟩
  gi_wp2
  refine⟨by simp,.inl ⟨_,_,rfl,run_takeDeferred hK,?_⟩⟩
  refine⟨.int .i64 re,?_,by have:=G5.out;rw[hwj] at this;exact this⟩
  simp[results,Tryz.f254,go_sem,G4]
theorem BI {w:World}{A:Option Addr}{n:Nat}{xs:List Int}(r:Rd w A n xs) (m:Nat) (hm:m≤n):Rd w A m (xs.take m):=by
 obtain⟨r1,r2,r3⟩:=r
 refine⟨by rw[List.length_take];omega,r2.take _,?_⟩
 rcases r3 with h|⟨b,o,rfl,hc⟩
 ·exact .inl (by omega)
 ·exact .inr ⟨b,o,rfl,fun i hi=>by rw[bY hi];exact hc i (by omega)⟩
theorem Gx {w:World}{F:List Nat}{d n:Nat}{s:DS}(h:Dk w F d n s) (home k c g o:Nat) {b:List Int}(hk9:k≤90000) (hh9:home≤90000) (hr:Rd w (some ⟨g,o,none⟩) (64 * (k+1)) b) (hc:64 * (k+1)≤c) (hO:g∉F) :
  Calls Tryz.prog 236 #[.pointer (some ⟨d,0,none⟩),.int .i64 (home:Nat),.slice (some ⟨g,o,none⟩) (64 * (k+1):Nat) c] w (StepPost (fun w' F' s'=>Dk w' F' d n s') w F (layJ s home b)):=by
 have hF:=h.lts
 have hlen:=hr.1
 have hg:g < w.heap.size:=by
  obtain⟨g',o',e,hcell⟩:=hr.2.2.resolve_left (by omega)
  injection e with e;injection e with e1 e2
  subst e1
  exact World.block_lt_of_cell? _ _ (hcell 0 (by omega))
 have s1:=fun w'=>dE (some ⟨g,o,none⟩) (64 * (k+1)) c 64 (by omega) 64 rfl w'
 have C1:ae (∀ w1 F1 s1,Dk w1 F1 d n s1→g∉F1→Rd w1 (some ⟨g,o,none⟩) (64 * (k+1)) b→Calls Tryz.prog 254 #[.pointer (some ⟨d,0,none⟩),.int .i64 (home:Nat),.slice (some ⟨g,o,none⟩) 64 c] w1 (StepPost (fun w' F' s'=>Dk w' F' d n s') w1 F1 (writeJ (b.take 64) home 1 s1))):=⟨fun w1 F1 s1 h1 h2 h3=>by
  have r1:Rd w1 (some ⟨g,o,none⟩) (64 * 1) (b.take 64):=BI h3 64 (by omega)
  exact tY h1 home 1 c g o (by omega) (by omega) (by omega) r1 (by omega) h2⟩
 by_cases hk:k=0
 ·subst hk
  obtain⟨A2,s2,-,-⟩:=jh hr (by omega) 64 (by omega) 64 rfl
  have hlay:=Lt home s (b:=b) (by omega)
  have cc:=ae.mk fun q=>C1.out (w.drewN q) F s (h.keep (barOf (below_drewN (Below.refl _ _) q) []) (fun _ _=>by simp)) hO (hr.below (below_drewN (Below.refl _ _) q))
  have PF:=ae.mk (fun q r e w' (hp:StepPost (fun w' F' s'=>Dk w' F' d n s') (w.drewN q) F r e w')=>(show StepPost (fun w' F' s'=>Dk w' F' d n s') w F r e w' from by
   obtain⟨e1,F',e2,e3⟩:=hp
   exact⟨e1,F',e2,Fp.trans (⟨barOf (below_drewN (Below.refl _ _) q) _,fun _ h=>.inl h⟩:Fp F F w (w.drewN q)) e3⟩))
  rw[hlay]
  clear h hr C1 hlay
  go_enter Tryz.func236,Tryz.ntmps236
  go_wp2
  go_quiet (fail)
  go_wp2_with fail
  refine(cc.out nq).mono ?_
  intro e w' hp
  have hp2:=PF.out nq _ _ _ hp
  obtain rfl:=hp2.1
  have HP:=ae.mk hp2
  clear hp hp2 cc PF
  go_wp2
  go_ret
  exact HP.out
 ·obtain⟨hk0⟩:ae (0 < k):=⟨by omega⟩
  have s2:=fun w'=>gV g o (64 * (k+1)) c 64 (by omega) (by omega) 64 rfl w'
  rw[show 64 * (k+1) - 64=64 * k by omega] at s2
  have hlay:=Qv home k s hlen hk0
  have hr2:Rd w (some ⟨g,o+64,none⟩) (64 * k) (b.drop 64):=by
   obtain⟨r1,r2,r3⟩:=hr
   obtain⟨g',o',e,hcell⟩:=r3.resolve_left (by omega)
   injection e with e;injection e with e1 e2
   subst e1 e2
   exact⟨by rw[List.length_drop];omega,r2.drop _,.inr ⟨g,o+64,rfl,fun i hi=>by rw[jQ,Nat.add_assoc];exact hcell _ (by omega)⟩⟩
  have cc:=ae.mk fun q=>tY (w:=w.drewN q) (h.keep (barOf (below_drewN (Below.refl _ _) q) []) (fun _ _=>by simp)) (home+1) k (c - 64) g (o+64) hk0 (by omega) (by omega) (hr2.below (below_drewN (Below.refl _ _) q)) (by omega) hO
  rw[Int.natCast_add] at cc
  have PF:=ae.mk (fun q F' w' (hp:Fp F F' (w.drewN q) w')=>(show Fp F F' w w' from Fp.trans (⟨barOf (below_drewN (Below.refl _ _) q) _,fun _ h=>.inl h⟩:Fp F F w (w.drewN q)) hp))
  have hW1:wrap64 ((home:Int)+1)=(home:Int)+1:=by unfold wrap64;omega
  have hkn:(0:Int) < ((64 * k:Nat):Int):=by omega
  rw[hlay]
  have HR:=ae.mk hr
  obtain⟨re,s3,hre⟩:∃ re s3,writeJ (b.drop 64) (home+1) k s=(re,s3):=⟨_,_,rfl⟩
  rw[hre] at cc ⊢
  clear h hr hlay hr2 hre
  by_cases h0:re=0
  ·subst h0
   rw[show mW ((0:Int),s3) (writeJ (b.take 64) home 1)=writeJ (b.take 64) home 1 s3 from rfl]
   go_enter Tryz.func236,Tryz.ntmps236
   go_wp2
   go_quiet (fail)
   go_wp2_with fail
   refine(cc.out nq).mono ?_
   rintro e w1 ⟨rfl,F1,dk1,fp1⟩
   have FP1:=ae.mk (PF.out _ _ _ fp1)
   have g1:g∉F1:=fun hm=>by
    rcases FP1.out.2 g hm with h1|h1
    ·exact hO h1
    ·omega
   have c1:=ae.mk (C1.out w1 F1 s3 dk1 g1 (HR.out.far FP1.out.1 (.inr ⟨g,o,rfl,hO⟩)))
   clear cc PF dk1 fp1 C1
   go_wp2_with fail
   refine c1.out.mono ?_
   rintro e w2 ⟨rfl,F2,dk2,fp2⟩
   have HP:=ae.mk (show StepPost (fun w' F' s'=>Dk w' F' d n s') w F (writeJ (b.take 64) home 1 s3) _ w2 from⟨rfl,F2,dk2,FP1.out.trans fp2⟩)
   clear c1 dk2 fp2 FP1
   go_wp2
   go_ret
   exact HP.out
  ·rw[show mW (re,s3) (writeJ (b.take 64) home 1)=(re,s3) by unfold mW;rw[if_neg h0]]
   go_enter Tryz.func236,Tryz.ntmps236
   go_wp2
   go_quiet (fail)
   go_wp2_with fail
   refine(cc.out nq).mono ?_
   rintro e w1 ⟨rfl,F1,dk1,fp1⟩
   have HP:=ae.mk (show StepPost (fun w' F' s'=>Dk w' F' d n s') w F (re,s3) (.returned (.int .i64 re)) w1 from⟨rfl,F1,dk1,PF.out _ _ _ fp1⟩)
   clear cc PF dk1 fp1 C1
   go_wp2
   go_ret
   exact HP.out
end Journal
end Go.Proofs.YtlkeieoecfkkeaaGreat
