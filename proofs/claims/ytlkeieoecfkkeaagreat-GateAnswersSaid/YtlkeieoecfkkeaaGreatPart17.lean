/-
  Parts laid together: DiskMap Bools DiskPost DiskMem DiskBase DiskAt DiskWrite DiskClear DiskSync DiskLen DiskRead DiskNew.
-/
import Derived.Test.YtlkeieoecfkkeaaGreatPart2
import Derived.Test.YtlkeieoecfkkeaaGreatPart7
import Derived.Maps.OwnSet
import Derived.Maps.Ext
import Derived.Lib.SlKeysI
import Derived.Test.YtlkeieoecfkkeaaGreatPart6
import Derived.Deep.Grids
import Derived.ChangeSame
import Derived.Laws.LoneSync
import Derived.Deep.MidRow
import Derived.StillTailTactics
import Derived.Laws.Cover3
set_option maxRecDepth 100000
set_option maxHeartbeats 2000000
namespace Go.Proofs.YtlkeieoecfkkeaaGreat
namespace Disk
open Go.RowKit Sha Go.Maps
open Go.WideElems (Fit rd rg pl)
open Go.ChangeMaps Go.MapKept
def secD (xs:List Int):DataW Unit:=.agg (xs.map fun x=>.lit (.int .u8 x))
theorem uN {xs ys:List Int}(h:secD xs=secD ys):xs=ys:=by
  unfold secD at h
  injection h with h
  induction xs generalizing ys with
  | nil=>cases ys with
    | nil=>rfl
    | cons y ys=>simp at h
  | cons x xs ih=>cases ys with
    | nil=>simp at h
    | cons y ys =>
      simp only[List.map_cons,List.cons.injEq] at h
      obtain⟨h1,h2⟩:=h
      injection h1 with h1
      injection h1 with _ h1
      rw[h1,ih h2]
def u8Of:Value→Option Int
 | .int .u8 a=>some a
 | _=>none
def Rsec:Value→Option (DataW Unit × List MemPlace)
 | .agg cs=>(cs.toList.mapM u8Of).map fun xs=>(secD xs,[])
 | _=>none
theorem VL (xs:List Int):(ints .u8 xs).mapM u8Of=some xs:=by
 induction xs with
 | nil=>rfl
 | cons x xs ih =>
  unfold ints at ih ⊢
  rw[List.map_cons,List.mapM_cons,ih]
  rfl
theorem VM {l:List Value}:∀ {xs:List Int},l.mapM u8Of=some xs→l=ints .u8 xs:=by
 induction l with
 | nil =>
  intro xs h
  simp at h
  subst h;rfl
 | cons v l ih =>
  intro xs h
  rw[List.mapM_cons] at h
  cases hv:u8Of v with
  | none=>rw[hv] at h;simp at h
  | some a =>
   cases hl:l.mapM u8Of with
   | none=>rw[hv,hl] at h;simp at h
   | some ys =>
    rw[hv,hl] at h
    simp at h
    subst h
    rw[ih hl]
    have:v=.int .u8 a:=by
     unfold u8Of at hv
     split at hv
     ·injection hv with hv;rw[hv]
     ·cases hv
    rw[this]
    rfl
theorem Bf (xs:List Int):Rsec (.agg (arr .u8 xs))=some (secD xs,[]):=by
 unfold Rsec arr
 simp[VL]
theorem uO {v:Value}{d:DataW Unit}{ps:List MemPlace}(h:Rsec v=some (d,ps)):∃ xs,v=.agg (arr .u8 xs)∧d=secD xs:=by
 unfold Rsec at h
 split at h
 ·rename_i cs
  cases hx:cs.toList.mapM u8Of with
  | none=>rw[hx] at h;simp at h
  | some xs =>
   rw[hx] at h
   simp at h
   refine⟨xs,?_,h.1.symm⟩
   have:=VM hx
   unfold arr
   rw[← this]
 ·cases h
theorem keyI (i:Nat) (h:i < 9000):keyOf Tryz.prog 3 (.int .i64 (i:Int))=some (.int .i64 (i:Int)):=keyOf_int_mk Tryz.underlying3 (by rw[Lit.wf_int_iff];simp only[show IntKind.i64.min=-9223372036854775808 from rfl,show IntKind.i64.max=9223372036854775807 from rfl];omega)
theorem DK:Keyed Tryz.prog 3:=int_keyed Tryz.underlying3
def Mp (w:World) (g:Nat) (p:List Nat) (L:List (List Int)):Prop:=∃ D:DataW Unit,w.ownsMap Tryz.prog 3 Rsec g p.length D∧p.Nodup∧(∀ i:Nat,has D (.int .i64 (i:Int))=decide (i∈p))∧(∀ x:Int,x < 0→has D (.int .i64 x)=false)∧(∀ i∈p,∀ z,D.atKey (.int .i64 (i:Int)) z=secD (rowOf L i))∧Maps.size D=p.length
theorem Mp.lt {w:World}{g:Nat}{p:List Nat}{L:List (List Int)}(h:Mp w g p L):g < w.heap.size:=by
 obtain⟨D,h1,-⟩:=h
 exact h1.lt
theorem mg {P:Program}{k:TypeId}{R:Value→Option (DataW Unit × List MemPlace)}{w w':World}{b n:Nat}{D:DataW Unit}{G:List Nat}(h:w.ownsMap P k R b n D) (hb:Bar G w w') (hg:b∉G):w'.ownsMap P k R b n D:=by
 have hl:=h.lt
 obtain⟨es,clock,h1,h2⟩:=h
 exact⟨es,clock,(hb.block b hl hg).trans h1,h2⟩
theorem Mp.bar {w w':World}{g:Nat}{p:List Nat}{L:List (List Int)}{G:List Nat}(h:Mp w g p L) (b:Bar G w w') (hg:g∉G):Mp w' g p L:=by
 obtain⟨D,h1,h2⟩:=h
 exact⟨D,Disk.mg h1 b hg,h2⟩
theorem Mp.ne {w:World}{g b:Nat}{p:List Nat}{L:List (List Int)}{t:TypeId}{cs:Array Value}(h:Mp w g p L) (k:Blk w b t cs):g≠b:=by
 rintro rfl
 obtain⟨D,⟨es,clock,h1,-⟩,-⟩:=h
 unfold Blk at k
 rw[h1] at k
 cases k
theorem DL (w:World) (g c:Nat) (L:List (List Int)) (h:w.heap[g]?=some (.map #[] c)):Mp w g [] L:=by
 refine⟨.map [],⟨#[],c,h,⟨by simp,MapKept.stamped_empty c,by simp⟩,by simp,rfl⟩,by simp,fun i=>?_,fun x _=>rfl,by simp,rfl⟩
 simp[has]
theorem VN (w:World) (L:List (List Int)):Mp (w.alloc (.map #[] 0)) w.heap.size [] L:=DL _ _ 0 _ (heap_alloc_new w _)
def zsec:Value:=.agg (arr .u8 (List.replicate 64 0))
theorem Mp.look {w:World}{g:Nat}{p:List Nat}{L:List (List Int)}(h:Mp w g p L) (i:Nat) (hi:i < 9000) (h64:(rowOf L i).length=64):∃ xs,xs.length=64∧(Instr.lookup 99 (.map (some g)) (.int .i64 (i:Int)) true).run Tryz.prog w=.ok (.tuple #[.agg (arr .u8 xs),.bool (decide (i∈p))]) w:=by
 obtain⟨D,h1,-,h3,-,h5,-⟩:=h
 obtain⟨v,ps,hrun,hv⟩:=h1.look_ok DK Tryz.underlying99 (z:=zsec) (Tryz.zeroValue263 w) (Bf _) (keyI i hi)
 rw[h3] at hrun
 by_cases hp:i∈p
 ·rw[h5 i hp] at hv
  obtain⟨xs,rfl,hx⟩:=uO hv
  exact⟨xs,by rw[← uN hx];exact h64,hrun⟩
 ·rw[atKey_of_not_has (by rw[h3];simpa using hp)] at hv
  obtain⟨xs,rfl,hx⟩:=uO hv
  exact⟨xs,by rw[← uN hx];simp,hrun⟩
theorem Mp.at_ {w:World}{g:Nat}{p:List Nat}{L:List (List Int)}(h:Mp w g p L) (i:Nat) (hi:i < 9000) (hp:i∈p):(Instr.lookup 99 (.map (some g)) (.int .i64 (i:Int)) false).run Tryz.prog w=.ok (.agg (arr .u8 (rowOf L i))) w:=by
 obtain⟨D,h1,-,h3,-,h5,-⟩:=h
 obtain⟨v,ps,hrun,hv⟩:=h1.lookup DK Tryz.underlying99 (z:=zsec) (Tryz.zeroValue263 w) (Bf _) (keyI i hi)
 rw[h5 i hp] at hv
 obtain⟨xs,rfl,hx⟩:=uO hv
 rw[uN hx]
 exact hrun
theorem Mp.len {w:World}{g:Nat}{p:List Nat}{L:List (List Int)}(h:Mp w g p L) (ty:TypeId):(Builtin.len_ #[99] ty #[.map (some g)]).run Tryz.prog w=.ok (.int .i64 (p.length:Nat)) w:=by
 obtain⟨D,h1,-,-,-,-,h6⟩:=h
 rw[← h6]
 exact h1.len Tryz.underlying99 ty
theorem x9 {w:World}{g:Nat}(o:Obj):Bar [g] w (setBlock w g o):=⟨rfl,rfl,rfl,by simp[setBlock],fun k _ hn=>by
 have hk:k≠g:=by simpa using hn
 simp[setBlock,Ne.symm hk]⟩
theorem Mp.clear {w:World}{g:Nat}{p:List Nat}{L:List (List Int)}(h:Mp w g p L) (L':List (List Int)):∃ w',(∀ ty,(Builtin.clear_ #[99] ty #[.map (some g)]).run Tryz.prog w=.ok (.tuple #[]) w')∧Mp w' g [] L'∧Bar [g] w w':=by
 obtain⟨D,⟨es,clock,h1,-⟩,-⟩:=h
 refine⟨setBlock w g (.map #[] clock),fun ty=>?_,DL _ _ clock _ (heap_setBlock_same h1 _),x9 _⟩
 simp[Builtin.clear_,run_underlying Tryz.underlying99,MapKept.run_getObj_map h1,MapKept.run_setObj_map _ h1,Result.andThen,setBlock]
theorem uP {i:Nat}{p:List Nat}(h:p.Pairwise (· < ·)):(ins i p).Nodup:=(vG i p h).imp (fun hlt=>by omega)
theorem Ja {i:Nat}{p:List Nat}(h:i∉p):(ins i p).length=p.length+1:=by
 induction p with
 | nil=>rfl
 | cons k l ih =>
  have h1:i≠k:=fun e=>h (by simp[e])
  have h2:i∉l:=fun e=>h (by simp[e])
  unfold ins
  split
  ·simp[ih h2]
  ·split
   ·rename_i e;exact absurd e.symm h1
   ·simp
theorem Jb {i j:Nat}(h:i≠j):(Lit.int .i64 (i:Int))≠.int .i64 (j:Int):=fun e=>by injection e with _ e;omega
theorem Mp.put {w:World}{g:Nat}{p:List Nat}{L:List (List Int)}(h:Mp w g p L) (i:Nat) (hi:i < 9000) (hp:i∉p) (hr:p.Pairwise (· < ·)) (hl:p.length < 9000) (xs:List Int) (hx:rowOf L i=xs) :
  ∃ w',(Instr.mapUpdate 99 (.map (some g)) (.int .i64 (i:Int)) (.agg (arr .u8 xs))).run Tryz.prog w=.ok () w'∧Mp w' g (ins i p) L∧Bar [g] w w':=by
 obtain⟨D,h1,h2,h3,h4,h5,h6⟩:=h
 obtain⟨w',hrun,own,gr⟩:=h1.update DK Tryz.underlying99 (by unfold maxLen;omega) (keyI i hi) (Bf xs)
 have hk:WideAt.IsKeyLit (.int .i64 (i:Int)):=trivial
 have hno:has D (.int .i64 (i:Int))=false:=by rw[h3];simpa using hp
 have hsz:Maps.size (D.put (.int .i64 (i:Int)) (secD xs))=p.length+1:=by
  rw[size_put (h1.tidy DK),if_neg (by rw[hno];decide),h6]
 refine⟨w',hrun,⟨D.put (.int .i64 (i:Int)) (secD xs),?_,uP hr,fun j=>?_,fun x hx0=>?_,fun j hj z=>?_,?_⟩,⟨gr.os,gr.tape,gr.output,gr.size,fun k hk hn=>gr.block k hk (fun e=>hn (by injection e with e;simp[e]))⟩⟩
 ·rw[Ja hp];exact own
 ·by_cases hij:j=i
  ·subst hij
   rw[has_put_same h1.isMap hk]
   simp[ins_mem]
  ·rw[has_put_other (Jb hij),h3]
   simp[ins_mem,hij]
 ·rw[has_put_other (fun e=>by injection e with _ e;omega)]
  exact h4 x hx0
 ·by_cases hij:j=i
  ·subst hij
   rw[atKey_put_same h1.isMap hk,hx]
  ·rw[atKey_put_other (Jb hij)]
   exact h5 j (((ins_mem i j p).1 hj).resolve_left hij) z
 ·rw[hsz,Ja hp]
end Disk
namespace Sha
open Go.RowKit Go.ChangeShapes Go.WideShapes Go.Deep
def Rb (w:World) (A:Option Addr) (n:Nat) (bs:List Bool):Prop :=
 bs.length=n∧(n=0∨∃ b o,A=some ⟨b,o,none⟩∧∀ i,i < n→w.cell? ⟨b,o+i,none⟩=some (.bool (bs.getD i false)))
theorem Rb.bar {w w':World}{A:Option Addr}{n:Nat}{xs:List Bool}{l:List Nat}(r:Rb w A n xs) (b:Bar l w w') (hl:∀ x∈l,w.heap.size≤x∨∀ o,A≠some ⟨x,o,none⟩):Rb w' A n xs:=by
 obtain⟨h1,h3⟩:=r
 refine⟨h1,h3.imp id ?_⟩
 rintro ⟨bb,o,rfl,hc⟩
 refine⟨bb,o,rfl,fun i hi=>?_⟩
 have hlt:bb < w.heap.size:=World.block_lt_of_cell? _ _ (hc i hi)
 rw[← hc i hi]
 refine World.cell?_of_block (w:=w) (b.block bb hlt (fun hm=>?_))
 rcases hl bb hm with h|h
 ·omega
 ·exact h o rfl
theorem Rb.below {w w':World}{A:Option Addr}{n:Nat}{xs:List Bool}(r:Rb w A n xs) (b:Below w.heap.size w w'):Rb w' A n xs:=r.bar (l:=[]) (barOf b []) (by simp)
theorem Rb.far {w w':World}{A:Option Addr}{n:Nat}{xs:List Bool}{F:List Nat}(r:Rb w A n xs) (b:Bar F w w') (h:Off A n F):Rb w' A n xs:=by
 rcases h with rfl|⟨g,o,rfl,hg⟩
 ·exact⟨r.1,.inl rfl⟩
 ·exact r.bar b (fun x hx=>.inr fun o' ho=>by injection ho with ho;injection ho with ho;exact hg (ho▸hx))
theorem Rb.off {w:World}{A:Option Addr}{n:Nat}{xs:List Bool}{F:List Nat}(r:Rb w A n xs) (h:∀ k∈F,w.heap.size≤k):Off A n F:=by
 rcases r.2 with h0|⟨b,o,rfl,hc⟩
 ·exact .inl h0
 ·by_cases h0:n=0
  ·exact .inl h0
  ·refine .inr ⟨b,o,rfl,fun hb=>?_⟩
   have:=World.block_lt_of_cell? _ _ (hc 0 (by omega))
   have:=h b hb
   simp at *
   omega
theorem Rb.nil_ {w:World}{A:Option Addr}:Rb w A 0 []:=⟨rfl,.inl rfl⟩
section
variable {H : Type} {enc : TypeId × Value → H} {P : Program} {w : World} {base : Nat} {held : Bool}
end
end Sha
namespace Disk
open Go.RowKit Sha
def oM (Dk:World→List Nat→Nat→Nat→DS→Prop) (w:World) (n:Nat) (e:Ending) (w':World):Prop:=∃ d F,e=.returned (.tuple #[.pointer (some ⟨d,0,none⟩),.int .i64 0])∧Dk w' F d n (newD n)∧Fp [] F w w'
def StepPost (D:World→List Nat→DS→Prop) (w:World) (F:List Nat) (r:Int × DS) (e:Ending) (w':World):Prop:=e=.returned (.int .i64 r.1)∧∃ F',D w' F' r.2∧Fp F F' w w'
theorem Jc {F:List Nat}{g n o:Nat}(h:∀ k∈F,k < g):Off (some ⟨g,o,none⟩) n F:=.inr ⟨g,o,rfl,fun hk=>by have:=h g hk;omega⟩
theorem nV {g:Nat}{t:TypeId}:∀ (vs:List Value) (o:Nat) (w:World) (cs:Array Value),Blk w g t cs →
    ∃ cs',Blk (w.setCells g o vs) g t cs'∧cs'.size=cs.size∧∀ k,k < cs.size→cs'[k]?=if o≤k∧k < o+vs.length then vs[k - o]? else cs[k]?
  | [],o,w,cs,h=>⟨cs,h,rfl,fun k _=>by rw[if_neg (by simp)]⟩
  | v :: r,o,w,cs,h=>by
    obtain⟨cs',h1,h2,h3⟩:=nV r (o+1) _ _ (h.set_ o v)
    refine⟨cs',h1,by simpa using h2,fun k hk=>?_⟩
    rw[h3 k (by simpa using hk),Array.getElem?_setIfInBounds]
    by_cases ho:o=k
    · subst ho
      rw[if_neg (by omega),if_pos rfl,if_pos hk,if_pos (show o≤o∧o < o+(v :: r).length from⟨Nat.le_refl _,by simp⟩),Nat.sub_self]
      rfl
    · by_cases hr:o+1≤k∧k < o+1+r.length
      · rw[if_pos hr,if_pos (by simp only[List.length_cons];omega),show k - o=(k - (o+1))+1 by omega,List.getElem?_cons_succ]
      · rw[if_neg hr,if_neg ho,if_neg (by simp only[List.length_cons];omega)]
theorem nX (g:Nat):∀ (vs:List Value) (o:Nat) (w:World),Bar [g] w (w.setCells g o vs)
 | [],_,w=>Bar.refl _ w
 | v :: r,o,w=>((Bar.refl [g] w).setCell (p:=⟨g,o,none⟩) (by simp) v).trans (nX g r (o+1) _) (by simp)
def Sx (w:World) (g:Nat) (l:List (List Int)):Prop:=∃ cs,Blk w g 263 cs∧∀ i,i < l.length→∀ j,j < 64→cs[i * 64+j]?=some (.int .u8 (at_ (rowOf l i) j))
theorem Sx.lt {w:World}{g:Nat}{l:List (List Int)}(h:Sx w g l):g < w.heap.size:=by
 obtain⟨cs,h1,-⟩:=h
 exact h1.lt
theorem Sx.bar {w w':World}{g:Nat}{l:List (List Int)}{G:List Nat}(h:Sx w g l) (b:Bar G w w') (hg:g∉G):Sx w' g l:=by
 obtain⟨cs,h1,h2⟩:=h
 exact⟨cs,h1.bar b hg,h2⟩
theorem Sx.range {w:World}{g:Nat}{l:List (List Int)}(h:Sx w g l) (i:Nat) (hi:i < l.length) (h64:(rowOf l i).length=64):w.rangeAt g (i * 64) (ints .u8 (rowOf l i)):=by
 obtain⟨cs,h1,h2⟩:=h
 intro j v hj
 have hjl:j < (rowOf l i).length:=by have:=(List.getElem?_eq_some_iff.1 hj).1;rwa [ints_len] at this
 rw[Sha.ints_at _ _ _ hjl] at hj
 rw[h1.cell,h2 i hi j (by omega),hj]
theorem uQ:(Tryz.prog.info? 263).map (·.size)=some 64:=by kernel_rfl
theorem Sx.load {w:World}{g:Nat}{l:List (List Int)}(h:Sx w g l) (i:Nat) (hi:i < l.length) (h64:(rowOf l i).length=64):(Instr.loadAt 263 (.pointer (some ⟨g,i * 64,none⟩))).run Tryz.prog w=.ok (.agg (arr .u8 (rowOf l i))) w :=
 run_loadAt_mid w g (i * 64) 263 (ints .u8 (rowOf l i)) _ (h.range i hi h64) Tryz.underlying263 rfl (by rw[uQ,ints_len,h64])
theorem Sx.store {w:World}{g:Nat}{l:List (List Int)}(h:Sx w g l) (i:Nat) (hi:i < l.length) (x:List Int) (h64:x.length=64):∃ w',(Instr.storeAt 263 (.pointer (some ⟨g,i * 64,none⟩)) (.agg (arr .u8 x))).run Tryz.prog w=.ok () w'∧Sx w' g (l.set i x)∧Bar [g] w w':=by
 obtain⟨cs,h1,h2⟩:=h
 have hsz:(arr .u8 x).size=64:=by rw[au,h64]
 refine⟨_,run_storeAt_mid w g (i * 64) 263 (arr .u8 x) (fun j hj=>⟨?_,h1.frozen _⟩) (by rw[uQ,hsz]) (all_oneCell_toArray (ay _ _)),?_,nX _ _ _ _⟩
 ·rw[h1.cell,h2 i hi j (by omega)];rfl
 ·obtain⟨cs',k1,k2,k3⟩:=nV (arr .u8 x).toList (i * 64) w cs h1
  have hl:(arr .u8 x).toList=ints .u8 x:=rfl
  refine⟨cs',k1,fun i' hi' j hj=>?_⟩
  rw[List.length_set] at hi'
  have hc:=h2 i' hi' j hj
  rw[k3 _ (Array.getElem?_eq_some_iff.1 hc).1,aS _ _ _ _ hi',hl,ints_len,h64]
  by_cases hii:i=i'
  ·subst hii
   rw[if_pos (by omega),if_pos rfl,show i * 64+j - i * 64=j by omega,Sha.ints_at _ _ _ (by omega)]
  ·rw[if_neg (by omega),if_neg hii,hc]
def u01:Bool→Int
 | true=>1
 | false=>0
theorem VO (b:Bool):(u01 b != 0)=b:=by cases b<;>rfl
def Dk (w:World) (F:List Nat) (d n:Nat) (s:DS):Prop:=WF n s∧∃ gw cw gm f,Blk w d 101 #[.slice (some ⟨gw,0,none⟩) n cw,.map (some gm),.int .i64 f,.int .u32 (u01 s.down)] ∧
 Sx w gw s.now∧Mp w gm s.pend s.last∧(if f < -1 then -1 else f)=s.fuse∧F=d :: gw :: gm :: []
theorem Dk.lts {w:World}{F:List Nat}{d n:Nat}{s:DS}(h:Dk w F d n s):∀ k∈F,k < w.heap.size:=by
 obtain⟨-,gw,cw,gm,f,h1,h2,h3,-,rfl⟩:=h
 intro k hk
 simp only[List.mem_cons,List.not_mem_nil,or_false] at hk
 rcases hk with rfl|rfl|rfl
 ·exact h1.lt
 ·exact h2.lt
 ·exact h3.lt
theorem Dk.keep {w w':World}{F G:List Nat}{d n:Nat}{s:DS}(h:Dk w F d n s) (b:Bar G w w') (j:Disj F G):Dk w' F d n s:=by
 obtain⟨h0,gw,cw,gm,f,h1,h2,h3,h4,rfl⟩:=h
 exact⟨h0,gw,cw,gm,f,h1.bar b (j d (by simp)),h2.bar b (j gw (by simp)),h3.bar b (j gm (by simp)),h4,rfl⟩
theorem dk_0 (a b c e:Value):(#[a,b,c,e]:Array Value)[0]?=some a:=rfl
theorem dk_1 (a b c e:Value):(#[a,b,c,e]:Array Value)[1]?=some b:=rfl
theorem dk_2 (a b c e:Value):(#[a,b,c,e]:Array Value)[2]?=some c:=rfl
theorem dk_3 (a b c e:Value):(#[a,b,c,e]:Array Value)[3]?=some e:=rfl
def hasB (n:Nat) (i:Int):Bool:=decide (0≤i∧i < n)
theorem Dk.turn {w w':World}{F:List Nat}{d n:Nat}{s t:DS}{gw cw gm:Nat}{f:Int}(hF:F=d :: gw :: gm :: []) (h1:∃ cs,Blk w d 101 cs) (h2:Sx w gw s.now) (h3:Mp w gm s.pend s.last) (hw:WF n t)
  (e1:t.now=s.now) (e2:t.pend=s.pend) (e3:t.last=s.last) (k:Blk w' d 101 #[.slice (some ⟨gw,0,none⟩) n cw,.map (some gm),.int .i64 f,.int .u32 (u01 t.down)]) (hf:(if f < -1 then -1 else f)=t.fuse) (b:Bar [d] w w'):Dk w' F d n t∧Fp F F w w':=by
 subst hF
 obtain⟨cs,h1⟩:=h1
 have n1:gw≠d:=by obtain⟨cs',k',-⟩:=h2;exact iP k' h1 (by decide)
 have n2:gm≠d:=h3.ne h1
 refine⟨⟨hw,gw,cw,gm,f,k,by rw[e1];exact h2.bar b (by simpa using n1),by rw[e2,e3];exact h3.bar b (by simpa using n2),hf,rfl⟩,b.mono (by simp),fun k hk=>.inl hk⟩
def eY (w:World) (F:List Nat) (d n:Nat) (s:DS) (e:Ending) (w':World):Prop:=e=.returned (.bool (!(burnD s).1))∧Dk w' F d n (burnD s).2∧Fp F F w w'
theorem Jd (a:Addr) (d:Bool) (w:World) (hc:w.cell? a=some (.int .u32 (u01 d))) :
  Calls Tryz.prog 185 #[.pointer (some a)] w fun e w'=>e=.returned (.bool d)∧w=w':=by
 have hl:=run_call_load (P:=Tryz.prog) Tryz.func215 (by kernel_rfl) (by kernel_rfl) (by kernel_rfl) .u32 (by kernel_rfl) hc
 have hd:=VO d
 generalize u01 d=z at *
 go_enter Tryz.func185,Tryz.ntmps185
 go_wp2
 go_ret
 exact⟨rfl,rfl⟩
theorem Gn (a:Addr) (b:Bool) (x:Value) (w:World) (hc:w.cell? a=some x) (hz:w.frozen? a=false) :
  Calls Tryz.prog 218 #[.pointer (some a),.bool b] w fun e w'=>e=.returned (.tuple #[])∧w'=w.drew.setCell a (.int .u32 (u01 b)):=by
 have hc':w.drew.cell? a=some x:=by go_simp
 have hz':w.drew.frozen? a=false:=by go_simp
 have hst:=run_call_store (P:=Tryz.prog) Tryz.func240 (by kernel_rfl) (by kernel_rfl) (by kernel_rfl) (by kernel_rfl) (k:=.u32) (y:=u01 b) hc' hz'
 cases b <;>
 ·simp only[u01] at hst ⊢
  go_enter Tryz.func218,Tryz.ntmps218
  go_wp2
  go_region_calls
  all_goals (go_end0;exact⟨rfl,rfl⟩)
theorem kP {w:World}{F:List Nat}{d n:Nat}{s:DS}(h:Dk w F d n s):Calls Tryz.prog 153 #[.pointer (some ⟨d,0,none⟩)] w fun e w'=>e=.returned (.bool s.down)∧w=w':=by
 obtain⟨h0,gw,cw,gm,f,h1,h2,h3,h4,rfl⟩:=h
 have c3:=(h1.cell 3).trans (dk_3 _ _ _ _)
 have c:=ae.mk (Jd ⟨d,3,none⟩ s.down w c3)
 clear h0 h1 h2 h3 h4
 go_enter Tryz.func153,Tryz.ntmps153
 go_wp2_with fail
 refine c.out.mono ?_
 rintro e w' ⟨rfl,rfl⟩
 go_wp2
 go_ret
 exact⟨rfl,rfl⟩
theorem DR {w:World}{F:List Nat}{d n:Nat}{s:DS}(i:Int) (h:Dk w F d n s):Calls Tryz.prog 154 #[.pointer (some ⟨d,0,none⟩),.int .i64 i] w fun e w'=>e=.returned (.bool (hasB n i))∧w=w':=by
 obtain⟨h0,gw,cw,gm,f,h1,h2,h3,h4,rfl⟩:=h
 have c0:=(h1.cell 0).trans (dk_0 _ _ _ _)
 clear h0 h1 h2 h3 h4
 by_cases hi0:0≤i
 ·by_cases hin:i < n
  ·rw[show hasB n i=true by simp[hasB,hi0,hin]]
   go_enter Tryz.func154,Tryz.ntmps154
   go_wp2
   go_ret
   exact⟨rfl,rfl⟩
  ·rw[show hasB n i=false by simp[hasB,hin]]
   go_enter Tryz.func154,Tryz.ntmps154
   go_wp2
   go_ret
   exact⟨rfl,rfl⟩
 ·rw[show hasB n i=false by simp[hasB,hi0]]
  go_enter Tryz.func154,Tryz.ntmps154
  go_wp2
  go_ret
  exact⟨rfl,rfl⟩
theorem yf {w:World}{F:List Nat}{d n:Nat}{s:DS}(h:Dk w F d n s):Calls Tryz.prog 281 #[.pointer (some ⟨d,0,none⟩)] w (eY w F d n s):=by
 obtain⟨h0,gw,cw,gm,f,h1,h2,h3,h4,rfl⟩:=h
 have hwf:=qy h0
 have hfu:=h0.fuse
 have c2:=(h1.cell 2).trans (dk_2 _ _ _ _)
 have c3:=(h1.cell 3).trans (dk_3 _ _ _ _)
 have z2:=h1.frozen 2
 have KK:=ae.mk fun (w':World) (f':Int) (u:Int) (k1:Blk w' d 101 #[.slice (some ⟨gw,0,none⟩) n cw,.map (some gm),.int .i64 f',.int .u32 u]) (kb:Bar [d] w w') (hu:u01 (burnD s).2.down=u) (hf:(if f' < -1 then -1 else f')=(burnD s).2.fuse) =>
  Dk.turn (F:=d :: gw :: gm :: []) rfl ⟨_,h1⟩ h2 h3 hwf (jr s) (kX s) (kV s) (by rw[hu];exact k1) hf kb
 have ST:=ae.mk (Gn ⟨d,3,none⟩ true _ w c3 (h1.frozen 3))
 have H1:=ae.mk h1
 clear h1 h2 h3 hwf h0 c3
 by_cases hf:s.fuse=0
 ·have hf0:f=0:=by rw[hf] at h4;split at h4<;>omega
  have e1:burnD s=(true,{ s with down:=true }):=by unfold burnD;rw[if_pos hf]
  unfold eY
  rw[e1] at KK ⊢
  subst hf0
  clear hfu e1 h4
  go_enter Tryz.func281,Tryz.ntmps281
  go_wp2_with fail
  refine ST.out.mono ?_
  rintro e w' ⟨rfl,rfl⟩
  have K3:=ae.mk (KK.out _ 0 1 (H1.out.drew.set_ 3 (.int .u32 1)) ((Bar.refl [d] w).drew.setCell (by simp) _) rfl (by rw[hf];rfl))
  clear KK
  go_wp2
  go_ret
  exact⟨rfl,K3.out⟩
 ·have hfb:(f == 0)=false:=by
   simp only[beq_eq_false_iff_ne,ne_eq]
   rintro rfl
   exact hf h4.symm
  by_cases hp:0 < s.fuse
  ·have hff:f=s.fuse:=by split at h4<;>omega
   have e1:burnD s=(false,{ s with fuse:=s.fuse - 1 }):=by unfold burnD;rw[if_neg hf,if_pos hp]
   have hw:wrap64 (f - 1)=f - 1:=by unfold wrap64;omega
   unfold eY
   rw[e1] at KK ⊢
   rw[← hff] at hp hfu KK ⊢
   clear e1 h4 hf ST
   have hfn:(if f - 1 < -1 then -1 else f - 1)=f - 1:=if_neg (by omega)
   have HN:=ae.mk hfn
   clear hfn hff hfu
   go_enter Tryz.func281,Tryz.ntmps281
   go_wp2
   go_ret
   exact⟨rfl,KK.out _ (f - 1) _ (H1.out.set_ 2 (.int .i64 (f - 1))) ((Bar.refl [d] w).setCell (by simp) _) rfl HN.out⟩
  ·have hff:¬ 0 < f:=by split at h4<;>omega
   have e1:burnD s=(false,s):=by unfold burnD;rw[if_neg hf,if_neg hp]
   have HN:=ae.mk h4
   unfold eY
   rw[e1] at KK ⊢
   clear e1 h4 hf hp hfu ST
   go_enter Tryz.func281,Tryz.ntmps281
   go_wp2
   go_ret
   exact⟨rfl,KK.out _ f _ H1.out (Bar.refl [d] w) rfl HN.out⟩
theorem uS {P:Program}{ops:Array Oper}{rest:List Oper}{o:Oper}{a:Act}{w:World}{Q:Exit→Act→World→Prop}(hgd:o.guard=none) (ty:TypeId) (x:Operand) (ho:o.op=.load ty x) (p v:Value) (hx:a.eval x=p)
  (hr:(Instr.loadAt ty p).run P w=.ok v w) (h:wpList P ops Q rest (a.put o.dst v) w):wpList P ops Q (o :: rest) a w :=
 wpList_plain hgd fun _ hK=>by
  unfold Oper.wp execOp
  simp only[ho,hx,Sem.run_bind,hr,Result.andThen_ok]
  exact hK _ _ h
theorem jL {P:Program}{ops:Array Oper}{rest:List Oper}{o:Oper}{a:Act}{w w':World}{Q:Exit→Act→World→Prop}(hgd:o.guard=none) (ty:TypeId) (x y:Operand) (ho:o.op=.store ty x y) (p v:Value) (hx:a.eval x=p) (hy:a.eval y=v)
  (hr:(Instr.storeAt ty p v).run P w=.ok () w') (h:wpList P ops Q rest (a.put o.dst undef) w'):wpList P ops Q (o :: rest) a w :=
 wpList_plain hgd fun _ hK=>by
  unfold Oper.wp execOp
  simp only[ho,hx,hy,Sem.run_bind,hr,Result.andThen_ok]
  exact hK _ _ h
theorem fE {P:Program}{ops:Array Oper}{rest:List Oper}{o:Oper}{a:Act}{w:World}{Q:Act→Prop}(hgd:o.guard=none) (ty:TypeId) (x:Operand) (ho:o.op=.load ty x) (p v:Value) (hx:a.eval x=p)
  (hr:(Instr.loadAt ty p).run P w=.ok v w) (h:wpStill P ops w Q rest (a.put o.dst v)):wpStill P ops w Q (o :: rest) a:=by
 unfold wpStill
 rw[if_pos (by simp[Region.wanted,hgd])]
 unfold Oper.still execOp
 simp only[ho,hx,Sem.run_bind,hr,Result.andThen_ok]
 exact⟨rfl,h⟩
theorem Je {n:Nat}{s:DS}(h:WF n s) (i:Int):hasB n i=!(decide (aQ s i)):=by
 have hn:=h.now
 by_cases h1:aQ s i
 ·rw[decide_eq_true h1]
  unfold aQ at h1
  simp only[hasB,Bool.not_true,decide_eq_false_iff_not]
  omega
 ·rw[decide_eq_false h1]
  unfold aQ at h1
  simp only[hasB,Bool.not_false,decide_eq_true_eq]
  omega
theorem Sr {n:Nat}{s:DS}(h:WF n s) {i:Int}(h1:¬ aQ s i):∃ j:Nat,i=j∧j < n:=by
 have hn:=h.now
 unfold aQ at h1
 exact⟨i.toNat,by omega,by omega⟩
theorem DT {i:Nat}:∀ {p:List Nat},p.Pairwise (· < ·)→i∈p→ins i p=p
  | [],_,h=>by simp at h
  | k :: l,hr,h=>by
    rw[List.pairwise_cons] at hr
    unfold ins
    by_cases hk:k < i
    · rw[if_pos hk,DT hr.2 ((List.mem_cons.1 h).resolve_left (by omega))]
    · rw[if_neg hk]
      by_cases he:k=i
      · rw[if_pos he]
      · rcases List.mem_cons.1 h with h1|h1
        · exact absurd h1.symm he
        · have:=hr.1 i h1;omega
def yg (s:DS) (i:Nat):DS:={ s with pend:=ins i s.pend }
theorem Ud {n:Nat}{s:DS}(h:WF n s) (i:Nat) (hi:i < n):WF n (yg s i) :=
 ⟨h.n1,h.n2,h.now,h.last,h.secs,fun j hj=>by
  rcases(ins_mem i j s.pend).1 hj with h1|h1
  ·omega
  ·exact h.pend j h1,vG i _ h.rise,fun j hj hn=>h.same j hj (fun hm=>hn ((ins_mem i j s.pend).2 (.inr hm))),h.fuse⟩
theorem Dk.put {w w':World}{F:List Nat}{d n:Nat}{s:DS}{gw cw gm:Nat}{f:Int}{j:Nat}{xs:List Int}(hF:F=d :: gw :: gm :: []) (h1:Blk w d 101 #[.slice (some ⟨gw,0,none⟩) n cw,.map (some gm),.int .i64 f,.int .u32 (u01 s.down)]) (h3:Mp w gm (ins j s.pend) s.last) (h2:Sx w gw s.now)
  (hw:WF n (putD s j xs)) (k:Sx w' gw (s.now.set j xs)) (hf:(if f < -1 then -1 else f)=s.fuse) (b:Bar [gw] w w'):Dk w' F d n (putD s j xs)∧Fp F F w w':=by
 subst hF
 have n1:gw≠d:=by obtain⟨cs',k',-⟩:=h2;exact iP k' h1 (by decide)
 have n2:gm≠gw:=by obtain⟨cs',k',-⟩:=h2;exact h3.ne k'
 exact⟨⟨hw,gw,cw,gm,f,h1.bar b (by simpa using n1.symm),k,h3.bar b (by simpa using n2),hf,rfl⟩,b.mono (by simp),fun k hk=>.inl hk⟩
theorem Dk.more {w w':World}{F:List Nat}{d n:Nat}{s:DS}{gw cw gm:Nat}{f:Int}{j:Nat}(hF:F=d :: gw :: gm :: []) (h1:Blk w d 101 #[.slice (some ⟨gw,0,none⟩) n cw,.map (some gm),.int .i64 f,.int .u32 (u01 s.down)]) (h2:Sx w gw s.now) (h3:Mp w gm s.pend s.last)
  (hw:WF n (yg s j)) (k:Mp w' gm (ins j s.pend) s.last) (hf:(if f < -1 then -1 else f)=s.fuse) (b:Bar [gm] w w'):Dk w' F d n (yg s j)∧Fp F F w w':=by
 subst hF
 have n1:gm≠d:=h3.ne h1
 have n2:gm≠gw:=by obtain⟨cs',k',-⟩:=h2;exact h3.ne k'
 exact⟨⟨hw,gw,cw,gm,f,h1.bar b (by simpa using n1.symm),h2.bar b (by simpa using n2.symm),k,hf,rfl⟩,b.mono (by simp),fun k hk=>.inl hk⟩
theorem Dk.drew {w:World}{F:List Nat}{d n:Nat}{s:DS}(h:Dk w F d n s):Dk w.drew F d n s:=h.keep (G:=[]) (Bar.refl [] w).drew (fun _ _=>by simp)
theorem Jf {w:World}{A:Option Addr}{xs:List Int}(r:Rd w A 64 xs):∃ b o,A=some ⟨b,o,none⟩∧(Instr.loadAt 263 (.pointer (some ⟨b,o,none⟩))).run Tryz.prog w=.ok (.agg (arr .u8 xs)) w:=by
 obtain⟨h1,-,h0|⟨b,o,rfl,hc⟩⟩:=r
 ·omega
 ·refine⟨b,o,rfl,run_loadAt_mid w b o 263 (ints .u8 xs) _ (fun j v hj=>?_) Tryz.underlying263 rfl (by rw[uQ,ints_len,h1])⟩
  have hjl:j < xs.length:=by have:=(List.getElem?_eq_some_iff.1 hj).1;rwa [ints_len] at this
  rw[Sha.ints_at _ _ _ hjl] at hj
  rw[← hj]
  exact hc j (by omega)
def ji (D:World→List Nat→DS→Prop) (w:World) (F:List Nat) (r:Int × DS) (e:Ending) (w':World):Prop:=e=.returned (.int .i64 r.1)∧D w' F r.2∧Bar F w w'
theorem Bg {w:World}{F:List Nat}{d n:Nat}{s:DS}(i:Int) {A:Option Addr}{l c:Nat}{xs:List Int}(h:Dk w F d n s) (r:Rd w A l xs) (hO:Off A l F) :
  Calls Tryz.prog 269 #[.pointer (some ⟨d,0,none⟩),.int .i64 i,.slice A l c] w (ji (fun w' F' s'=>Dk w' F' d n s') w F (writeD s i xs)):=by
 have C1:=ae.mk (kP h)
 have C2:=ae.mk (DR i h)
 have C3:=ae.mk (yf h)
 have D:=ae.mk h
 have hwf:=ae.mk h.1
 have R:=ae.mk r
 have OF:=ae.mk hO
 have hxl:=r.1
 have SAME:ae (∀ e:Int,ji (fun w' F' s'=>Dk w' F' d n s') w F (e,s) (.returned (.int .i64 e)) w):=⟨fun e=>⟨rfl,h,Bar.refl _ _⟩⟩
 clear h r hO
 cases hd:s.down with
 | true =>
  rw[hd] at C1
  have e1:writeD s i xs=(13,s):=by unfold writeD;rw[if_pos hd]
  rw[e1]
  clear C2 C3 e1 hd
  go_enter Tryz.func269,Tryz.ntmps269
  go_wp2_with fail
  refine C1.out.mono ?_
  rintro e w' ⟨rfl,rfl⟩
  go_wp2
  go_ret
  exact SAME.out 13
 | false =>
  rw[hd] at C1
  rw[Je hwf.out] at C2
  by_cases hs:aQ s i
  ·have e1:writeD s i xs=(1,s):=by unfold writeD;rw[if_neg (by rw[hd];decide),if_pos hs]
   rw[e1]
   rw[decide_eq_true hs] at C2
   clear C3 e1 hd hs
   go_enter Tryz.func269,Tryz.ntmps269
   go_wp2_with fail
   refine C1.out.mono ?_
   rintro e w' ⟨rfl,rfl⟩
   go_wp2_with fail
   refine C2.out.mono ?_
   rintro e w' ⟨rfl,rfl⟩
   go_wp2
   go_ret
   exact SAME.out 1
  ·rw[decide_eq_false hs] at C2
   by_cases h6:l=64
   ·subst h6
    by_cases hb:(burnD s).1=true
    ·have e1:writeD s i xs=(13,(burnD s).2):=by unfold writeD;rw[if_neg (by rw[hd];decide),if_neg hs,if_neg (by omega),if_pos hb]
     rw[e1]
     unfold eY at C3
     rw[hb] at C3
     clear e1 hb hd hs
     go_enter Tryz.func269,Tryz.ntmps269
     go_wp2_with fail
     refine C1.out.mono ?_
     rintro e w' ⟨rfl,rfl⟩
     go_wp2_with fail
     refine C2.out.mono ?_
     rintro e w' ⟨rfl,rfl⟩
     go_wp2_with fail
     refine C3.out.mono ?_
     rintro e w1 ⟨rfl,dk,fp⟩
     have RR:=ae.mk (show ji (fun w' F' s'=>Dk w' F' d n s') w F (13,(burnD s).2) (.returned (.int .i64 13)) w1 from⟨rfl,dk,fp.1⟩)
     clear dk fp
     go_wp2
     go_ret
     exact RR.out
    ·have hb':(burnD s).1=false:=by simpa using hb
     have e1:writeD s i xs=(0,putD (burnD s).2 i.toNat xs):=by unfold writeD;rw[if_neg (by rw[hd];decide),if_neg hs,if_neg (by omega),if_neg hb]
     rw[e1]
     unfold eY at C3
     rw[hb'] at C3
     obtain⟨j,rfl,hj⟩:=Sr hwf.out hs
     have hj':(j:Int) < n:=by omega
     have hn2:=hwf.out.n2
     rw[Int.toNat_natCast]
     clear e1 hb hb' hd hs hwf SAME
     generalize (burnD s).2=t at *
     go_enter Tryz.func269,Tryz.ntmps269
     go_wp2_with fail
     refine C1.out.mono ?_
     rintro e w' ⟨rfl,rfl⟩
     go_wp2_with fail
     refine C2.out.mono ?_
     rintro e w' ⟨rfl,rfl⟩
     go_wp2_with fail
     refine C3.out.mono ?_
     rintro e w1 ⟨rfl,dk,fp⟩
     clear C1 C2 C3 D
     replace OF:=ae.mk (OF.out.step R.out fp)
     replace R:=ae.mk (R.out.far fp.1 (by rcases OF.out with h|h;exact .inl h;exact .inr h))
     have FP:=ae.mk fp
     have WT:=ae.mk dk.1
     have D:=ae.mk dk
     clear dk fp
     obtain⟨h0,gw,cw,gm,f,h1,h2,h3,h4,hF⟩:=D.out
     obtain⟨ys,y64,hlook⟩:=h3.look j (by omega) (WT.out.secs j hj).2.1
     have Y64:=ae.mk y64
     have c1:=(h1.cell 1).trans (dk_1 _ _ _ _)
     clear h0 h1 h2 h3 h4 hF y64
     by_cases hp:j∈t.pend
     ·rw[decide_eq_true hp] at hlook
      go_upto_region 10 with((with_reducible refine selS 263 (.tmp 7) (.tmp 28) ?_);refine wpList_store_row rfl 263 (.tmp 7) (.tmp 28) rfl w1.heap.size (arr .u8 ys) rfl rfl 263 _ (Blk.new _ _ _) (by rw[au,Y64.out];kernel_rfl) (by rw[au,Y64.out];rfl) (all_oneCell_toArray (ay _ _)) ?_;refine uC (fun w'=>ae (Below w1.heap.size w1 w')) ⟨?_⟩ (fun w2 b2=>?_))
      case refine_1=>exact below_setRow ((Below.refl _ _).alloc (Nat.le_refl _) _) (Nat.le_refl _) _
      have D2:=ae.mk (D.out.keep (barOf b2.out []) (fun _ _=>by simp))
      have R2:=ae.mk (R.out.below b2.out)
      have FP2:=ae.mk (FP.out.trans (⟨barOf b2.out _,fun k hk=>.inl hk⟩:Fp F F w1 w2))
      clear b2 hlook c1 D R FP
      have D3:ae (Dk w2 F d n (yg t j)):=⟨by
       rw[show yg t j=t by unfold yg;rw[DT WT.out.rise hp]];exact D2.out⟩
      have R3:=R2
      have FP3:=FP2
      clear D2 R2 FP2 hp
      go_wp2
      obtain⟨-,gw,cw,gm,f,h1,h2,h3,h4,hF⟩:=D3.out.drew
      have c0:=(h1.cell 0).trans (dk_0 _ _ _ _)
      obtain⟨w4,hst,k4,b4⟩:=h2.store j (by rw[show (yg t j).now=t.now from rfl,WT.out.now];exact hj) xs hxl
      have RES:ae (ji (fun w' F' s'=>Dk w' F' d n s') w F (0,putD t j xs) (.returned (.int .i64 0)) w4):=by
       obtain⟨p,q⟩:=Dk.put (s:=t) hF h1 h3 h2 (JA WT.out j xs hj ⟨hxl,R3.out.2.1⟩) k4 h4 b4
       exact⟨rfl,p,((FP3.out.trans ⟨(Bar.refl F _).drew,fun k hk=>.inl hk⟩).trans q).1⟩
      obtain⟨sb,so,rfl,hl⟩:=Jf R3.out.drew
      have harr:=run_arrayAt (P:=Tryz.prog) w2.drew 263 5 64 (some ⟨sb,so,none⟩) 64 c Tryz.underlying263 (Nat.le_refl _)
      clear h1 h2 h3 h4 hF k4 b4
      refine wp_region_still_tail 9 (by kernel_rfl) (by kernel_rfl) ?_
      simp only[List.take_succ_cons,List.take_zero,List.drop_succ_cons,List.drop_zero]
      iterate 7 still_step
      refine fE rfl 263 (.tmp 50) rfl _ _ rfl hl ?_
      still_step
      refine wpStill_nil ?_
      change wpList _ _ _ _ _ w2.drew
      go_wp2_with ((with_reducible refine selS 263 (.tmp 52) (.tmp 51) ?_);refine jL rfl 263 (.tmp 52) (.tmp 51) rfl _ _ rfl rfl hst ?_)
      go_ret
      exact RES.out
     ·rw[decide_eq_false hp] at hlook
      go_upto_region 10 with((with_reducible refine selS 263 (.tmp 7) (.tmp 28) ?_);refine wpList_store_row rfl 263 (.tmp 7) (.tmp 28) rfl w1.heap.size (arr .u8 ys) rfl rfl 263 _ (Blk.new _ _ _) (by rw[au,Y64.out];kernel_rfl) (by rw[au,Y64.out];rfl) (all_oneCell_toArray (ay _ _)) ?_;refine uC (fun w'=>ae (Below w1.heap.size w1 w')) ⟨?_⟩ (fun w2 b2=>?_))
      case refine_1=>exact below_setRow ((Below.refl _ _).alloc (Nat.le_refl _) _) (Nat.le_refl _) _
      have D2:=ae.mk (D.out.keep (barOf b2.out []) (fun _ _=>by simp))
      have R2:=ae.mk (R.out.below b2.out)
      have FP2:=ae.mk (FP.out.trans (⟨barOf b2.out _,fun k hk=>.inl hk⟩:Fp F F w1 w2))
      clear b2 hlook c1 D R FP
      obtain⟨-,gw,cw,gm,f,h1,h2,h3,h4,hF⟩:=D2.out.drew
      have c0:=(h1.cell 0).trans (dk_0 _ _ _ _)
      have c1:=(h1.cell 1).trans (dk_1 _ _ _ _)
      have hl:=h2.load j (by rw[WT.out.now];exact hj) (WT.out.secs j hj).1.1
      obtain⟨w3,hput,k3,b3⟩:=h3.put j (by omega) hp WT.out.rise (by have:=JJ WT.out;omega) (rowOf t.now j) (WT.out.same j hj hp).symm
      have M:=Dk.more hF h1 h2 h3 (Ud WT.out j hj) k3 h4 b3
      have D3:=ae.mk M.1
      have R3:=ae.mk (R2.out.drew.far M.2.1 (by rcases OF.out with h|h;exact .inl h;exact .inr h))
      have FP3:=ae.mk ((FP2.out.trans (⟨(Bar.refl F _).drew,fun k hk=>.inl hk⟩:Fp F F w2 w2.drew)).trans M.2)
      clear h1 h2 h3 h4 hF k3 b3 M D2 R2 FP2 hp
      go_wp2
      refine wp_region_still_tail 12 (by kernel_rfl) (by kernel_rfl) ?_
      simp only[List.take_succ_cons,List.take_zero,List.drop_succ_cons,List.drop_zero]
      iterate 11 still_step
      refine fE rfl 263 (.tmp 42) rfl _ _ rfl hl ?_
      refine wpStill_nil ?_
      change wpList _ _ _ _ _ w2.drew
      clear hl
      go_wp2
      obtain⟨-,gw,cw,gm,f,h1,h2,h3,h4,hF⟩:=D3.out.drew
      have c0:=(h1.cell 0).trans (dk_0 _ _ _ _)
      obtain⟨w4,hst,k4,b4⟩:=h2.store j (by rw[show (yg t j).now=t.now from rfl,WT.out.now];exact hj) xs hxl
      have RES:ae (ji (fun w' F' s'=>Dk w' F' d n s') w F (0,putD t j xs) (.returned (.int .i64 0)) w4):=by
       obtain⟨p,q⟩:=Dk.put (s:=t) hF h1 h3 h2 (JA WT.out j xs hj ⟨hxl,R3.out.2.1⟩) k4 h4 b4
       exact⟨rfl,p,((FP3.out.trans ⟨(Bar.refl F _).drew,fun k hk=>.inl hk⟩).trans q).1⟩
      obtain⟨sb,so,rfl,hl⟩:=Jf R3.out.drew
      have harr:=run_arrayAt (P:=Tryz.prog) w3.drew 263 5 64 (some ⟨sb,so,none⟩) 64 c Tryz.underlying263 (Nat.le_refl _)
      clear h1 h2 h3 h4 hF k4 b4
      refine wp_region_still_tail 9 (by kernel_rfl) (by kernel_rfl) ?_
      simp only[List.take_succ_cons,List.take_zero,List.drop_succ_cons,List.drop_zero]
      iterate 7 still_step
      refine fE rfl 263 (.tmp 50) rfl _ _ rfl hl ?_
      still_step
      refine wpStill_nil ?_
      change wpList _ _ _ _ _ w3.drew
      go_wp2_with ((with_reducible refine selS 263 (.tmp 52) (.tmp 51) ?_);refine jL rfl 263 (.tmp 52) (.tmp 51) rfl _ _ rfl rfl hst ?_)
      go_ret
      exact RES.out
   ·have e1:writeD s i xs=(2,s):=by unfold writeD;rw[if_neg (by rw[hd];decide),if_neg hs,if_pos (by omega)]
    rw[e1]
    have h6':¬ (l:Int)=64:=by omega
    clear C3 e1 hd hs h6
    go_enter Tryz.func269,Tryz.ntmps269
    go_wp2_with fail
    refine C1.out.mono ?_
    rintro e w' ⟨rfl,rfl⟩
    go_wp2_with fail
    refine C2.out.mono ?_
    rintro e w' ⟨rfl,rfl⟩
    go_wp2
    go_ret
    exact SAME.out 2
theorem Dk.clear {w w':World}{F:List Nat}{d n:Nat}{s t:DS}{gw cw gm:Nat}{f:Int}(hF:F=d :: gw :: gm :: []) (h1:Blk w d 101 #[.slice (some ⟨gw,0,none⟩) n cw,.map (some gm),.int .i64 f,.int .u32 (u01 t.down)]) (h2:Sx w gw t.now) (h3:Mp w gm s.pend s.last) (hw:WF n t)
  (e2:t.pend=[]) (k:Mp w' gm [] t.last) (hf:(if f < -1 then -1 else f)=t.fuse) (b:Bar [gm] w w'):Dk w' F d n t∧Fp F F w w':=by
 subst hF
 have n1:gm≠d:=h3.ne h1
 have n2:gm≠gw:=by obtain⟨cs',k',-⟩:=h2;exact h3.ne k'
 refine⟨⟨hw,gw,cw,gm,f,h1.bar b (by simpa using n1.symm),h2.bar b (by simpa using n2.symm),by rw[e2];exact k,hf,rfl⟩,b.mono (by simp),fun k hk=>.inl hk⟩
theorem Jg {w:World}{F:List Nat}{d n:Nat}{s:DS}(h:Dk w F d n s):Calls Tryz.prog 270 #[.pointer (some ⟨d,0,none⟩)] w (StepPost (fun w' F' s'=>Dk w' F' d n s') w F (syncD s)):=by
 have C1:=ae.mk (kP h)
 have C2:=ae.mk (yf h)
 have D:=ae.mk h
 have hwf:=ae.mk h.1
 clear h
 cases hd:s.down with
 | true =>
  rw[hd] at C1
  have e1:syncD s=(13,s):=by unfold syncD;rw[if_pos hd]
  rw[e1]
  clear C2 e1 hd
  go_enter Tryz.func270,Tryz.ntmps270
  go_wp2_with fail
  refine C1.out.mono ?_
  rintro e w' ⟨rfl,rfl⟩
  go_wp2
  go_ret
  exact⟨rfl,F,D.out,Fp.refl _ _⟩
 | false =>
  rw[hd] at C1
  by_cases hb:(burnD s).1=true
  ·have e1:syncD s=(13,(burnD s).2):=by unfold syncD;rw[if_neg (by rw[hd];decide),if_pos hb]
   rw[e1]
   unfold eY at C2
   rw[hb] at C2
   clear e1 hb hd
   go_enter Tryz.func270,Tryz.ntmps270
   go_wp2_with fail
   refine C1.out.mono ?_
   rintro e w' ⟨rfl,rfl⟩
   go_wp2_with fail
   refine C2.out.mono ?_
   rintro e w1 ⟨rfl,dk,fp⟩
   have R:=ae.mk (show StepPost (fun w' F' s'=>Dk w' F' d n s') w F (13,(burnD s).2) (.returned (.int .i64 13)) w1 from⟨rfl,F,dk,fp⟩)
   clear dk fp
   go_wp2
   go_ret
   exact R.out
  ·have hb':(burnD s).1=false:=by simpa using hb
   have e1:syncD s=(0,Bl (burnD s).2):=by unfold syncD;rw[if_neg (by rw[hd];decide),if_neg hb]
   rw[e1]
   unfold eY at C2
   rw[hb'] at C2
   clear e1 hb hb' hd
   go_enter Tryz.func270,Tryz.ntmps270
   go_wp2_with fail
   refine C1.out.mono ?_
   rintro e w' ⟨rfl,rfl⟩
   go_wp2_with fail
   refine C2.out.mono ?_
   rintro e w1 ⟨rfl,dk,fp⟩
   obtain⟨h0,gw,cw,gm,f,h1,h2,h3,h4,hF⟩:=dk
   obtain⟨w2,hcl,k,b⟩:=h3.clear (burnD s).2.now
   have c1:=(h1.cell 1).trans (dk_1 _ _ _ _)
   have R:ae (StepPost (fun w' F' s'=>Dk w' F' d n s') w F (0,Bl (burnD s).2) (.returned (.int .i64 0)) w2):=by
    obtain⟨p,q⟩:=Dk.clear (t:=Bl (burnD s).2) hF h1 h2 h3 (JC h0) rfl k h4 b
    exact⟨rfl,F,p,fp.trans q⟩
   clear h0 h1 h2 h3 h4 hF k b fp
   go_wp2
   go_ret
   exact R.out
theorem jm {w:World}{F:List Nat}{d n:Nat}{s:DS}(h:Dk w F d n s):Calls Tryz.prog 45 #[.pointer (some ⟨d,0,none⟩)] w fun e w'=>e=.returned (.int .i64 (n:Nat))∧w=w':=by
 obtain⟨h0,gw,cw,gm,f,h1,h2,h3,h4,rfl⟩:=h
 have c0:=(h1.cell 0).trans (dk_0 _ _ _ _)
 clear h0 h1 h2 h3 h4
 go_enter Tryz.func45,Tryz.ntmps45
 go_wp2
 go_ret
 exact⟨rfl,rfl⟩
def yh (w:World) (r:Int × List Int) (e:Ending) (w':World):Prop:=∃ A c,e=.returned (.tuple #[.slice A r.2.length c,.int .i64 r.1])∧Rd w' A r.2.length r.2∧(r.2.length=0∨∃ g o,A=some ⟨g,o,none⟩∧w.heap.size≤g∧∀ i,i < r.2.length→w'.frozen? ⟨g,o+i,none⟩=false)∧r.2.length≤c∧c≤9223372036854775807∧Below w.heap.size w w'
theorem Jh {w:World}{F:List Nat}{d n:Nat}{s:DS}(i:Int) (h:Dk w F d n s):Calls Tryz.prog 119 #[.pointer (some ⟨d,0,none⟩),.int .i64 i] w (yh w (oI s i)):=by
 have C1:=ae.mk (kP h)
 have C2:=ae.mk (DR i h)
 have D:=ae.mk h
 have hno:∀ c:Int,yh w (c,[]) (.returned (.tuple #[.slice none 0 0,.int .i64 c])) w:=fun c=>⟨none,0,rfl,Rd.nil_,.inl rfl,by simp,by omega,Below.refl _ _⟩
 have NO:=ae.mk hno
 have hwf:=ae.mk h.1
 clear h hno
 cases hd:s.down with
 | true =>
  rw[hd] at C1
  have e1:oI s i=(13,[]):=by unfold oI;rw[if_pos hd]
  rw[e1]
  clear C2 e1 hd
  go_enter Tryz.func119,Tryz.ntmps119
  go_wp2_with fail
  refine C1.out.mono ?_
  rintro e w' ⟨rfl,rfl⟩
  go_wp2
  go_ret2
  exact NO.out 13
 | false =>
  rw[hd] at C1
  rw[Je hwf.out] at C2
  by_cases hs:aQ s i
  ·have e1:oI s i=(1,[]):=by unfold oI;rw[if_neg (by rw[hd];decide),if_pos hs]
   rw[e1]
   rw[decide_eq_true hs] at C2
   clear e1 hd hs
   go_enter Tryz.func119,Tryz.ntmps119
   go_wp2_with fail
   refine C1.out.mono ?_
   rintro e w' ⟨rfl,rfl⟩
   go_wp2_with fail
   refine C2.out.mono ?_
   rintro e w' ⟨rfl,rfl⟩
   go_wp2
   go_ret2
   exact NO.out 1
  ·have e1:oI s i=(0,rowOf s.now i.toNat):=by unfold oI;rw[if_neg (by rw[hd];decide),if_neg hs]
   rw[e1]
   rw[decide_eq_false hs] at C2
   obtain⟨j,rfl,hj⟩:=Sr hwf.out hs
   have hj':(j:Int) < n:=by omega
   rw[Int.toNat_natCast]
   have hsec:=(hwf.out.secs j hj).1
   have L64:=ae.mk hsec.1
   have LB:=ae.mk hsec.2
   obtain⟨h0,gw,cw,gm,f,h1,h2,h3,h4,hF⟩:=D.out
   have c0:=(h1.cell 0).trans (dk_0 _ _ _ _)
   have hl:=h2.load j (by rw[h0.now];exact hj) hsec.1
   clear e1 hd hs h0 h1 h2 h3 h4 hF hsec NO
   generalize rowOf s.now j=x at *
   go_enter Tryz.func119,Tryz.ntmps119
   go_wp2_with fail
   refine C1.out.mono ?_
   rintro e w' ⟨rfl,rfl⟩
   go_wp2_with fail
   refine C2.out.mono ?_
   rintro e w' ⟨rfl,rfl⟩
   go_upto_region 6 with(first|((with_reducible refine sel 19 ?_);refine uS rfl 263 (.tmp 18) rfl _ _ rfl hl ?_)|((with_reducible refine selS 263 (.tmp 6) (.tmp 19) ?_);refine wpList_store_row rfl 263 (.tmp 6) (.tmp 19) rfl w.heap.size (arr .u8 x) rfl rfl 263 _ (Blk.new _ _ _) (by rw[au,L64.out];kernel_rfl) (by rw[au,L64.out];rfl) (all_oneCell_toArray (ay _ _)) ?_;refine uC (fun w'=>ae (Blk w' w.heap.size 263 (arr .u8 x))∧ae (Below w.heap.size w w')) ⟨⟨?_⟩,⟨?_⟩⟩ (fun w1 hw1=>?_)))
   case refine_1=>exact(Blk.new w _ _).row _
   case refine_2=>exact below_setRow ((Below.refl _ _).alloc (Nat.le_refl _) _) (Nat.le_refl _) _
   obtain⟨k1,b1⟩:=hw1
   go_wp2
   go_ret2
   refine⟨some ⟨w.heap.size,0,none⟩,64,by simp only[L64.out];rfl,?_,.inr ⟨_,0,rfl,Nat.le_refl _,fun k _=>?_⟩,by simp only[L64.out];omega,by omega,b1.out⟩
   ·simp only[L64.out];exact Rd.blk k1.out LB.out L64.out
   ·exact k1.out.frozen _
theorem yj (m k:Nat):at_ (List.replicate m 0) k=0:=by
 by_cases h:k < m<;>simp[at_,List.getD_eq_getElem?_getD,h]
theorem Pi (w:World) (n:Nat) (h1:1≤n) (h2:n≤8192):∃ w',(Instr.makeSlice 98 (.int .i64 (n:Int)) (.int .i64 (n:Int))).run Tryz.prog w=.ok (.slice (some ⟨w.heap.size,0,none⟩) n n) w'∧Sx w' w.heap.size (List.replicate n bF)∧Below w.heap.size w w':=by
 have hi0:(Tryz.prog.info? 263).map (fun i=>(i.zero,i.size,i.bytes))=some (some (.agg (arr .u8 bF)),64,64):=by kernel_rfl
 obtain⟨iu,hi,hz0,hz1,hz2⟩:=info_parts hi0
 obtain⟨w',hm,own,gr⟩:=run_makeSlice_full (P:=Tryz.prog) w w.heap.size 98 263 iu _ 64 Tryz.underlying98 hi hz0 hz1 .i64 .i64 n (by omega) (by rw[hz2];omega) (by unfold maxLen;omega) (Nat.le_refl _)
 refine⟨w',hm,?_,⟨gr.os,gr.tape,gr.output,gr.size,fun k hk=>gr.block k hk (by simp)⟩⟩
 rcases own.2 with⟨h0,-⟩|⟨g,cap,cur,hv,-,hh,h3,-,hs,ht⟩
 ·cases h0
 ·have hv2:w.heap.size=g∧n=cap:=by
   have:=hv
   simp only[Value.slice.injEq,Option.some.injEq,Addr.mk.injEq] at this
   omega
  obtain⟨hg,rfl⟩:=hv2
  rw[hg]
  refine⟨cur,hh,fun i hi' j hj=>?_⟩
  rw[List.length_replicate] at hi'
  have hk:i * 64+j < n * 64:=by omega
  have e1:(cur.toList.take (n * 64))[i * 64+j]?=some (.int .u8 0):=by
   rw[ht]
   have hsz:(Value.agg (arr .u8 bF)).cells=arr .u8 bF:=rfl
   have hs64:(arr .u8 bF).size=64:=rfl
   rw[hsz]
   unfold madeCells
   rw[Array.getElem?_toList,Array.getElem?_map,Array.getElem?_range]
   rw[if_pos hk]
   simp only[Option.map_some,hs64]
   have h6:(i * 64+j) % 64 < 64:=Nat.mod_lt _ (by omega)
   have:=DV .u8 bF ((i * 64+j) % 64) (by simpa [bF] using h6)
   rw[getElem!_def,this]
   rw[show at_ bF ((i * 64+j) % 64)=0 from yj 64 _]
  rw[List.getElem?_take_of_lt hk,Array.getElem?_toList] at e1
  rw[e1,cZ _ _ hi',show at_ bF j=0 from yj 64 _]
theorem Ji (w:World) (n:Nat) (h1:1≤n) (h2:n≤8192):Calls Tryz.prog 18 #[.int .i64 n] w (oM Dk w n):=by
 have h1':(1:Int)≤n:=by omega
 have h2':(n:Int)≤8192:=by omega
 obtain⟨w1,hmk,sx,b1⟩:=Pi w n h1 h2
 obtain⟨G,hG⟩:∃ G,w.heap.size=G:=⟨_,rfl⟩
 have hGl:=sx.lt
 rw[hG] at hmk sx b1 hGl
 obtain⟨M,hM⟩:∃ M,w1.heap.size=M:=⟨_,rfl⟩
 have mp:Mp (w1.alloc (.map #[] 0)) M [] (List.replicate n bF):=by rw[← hM];exact VN _ _
 have hal:∀ (x:World) (o:Obj),Bar [] x (x.alloc o):=fun x o=>(Bar.refl [] x).alloc o
 have sx2:=sx.bar (hal w1 (.map #[] 0)) (by simp)
 have R:ae (oM Dk w n (.returned (.tuple #[.pointer (some ⟨M+1,0,none⟩),.int .i64 0])) ((w1.alloc (.map #[] 0)).alloc (.cells #[.slice (some ⟨G,0,none⟩) n n,.map (some M),.int .i64 (-1),.int .u32 0] 101))):=by
  refine⟨M+1,_,rfl,⟨Jz n h1 h2,G,n,M,-1,Blk.new_at _ _ _ _ (by simp[hM]),sx2.bar (hal _ _) (by simp),mp.bar (hal _ _) (by simp),rfl,rfl⟩,?_,fun k hk=>.inr ?_⟩
  ·exact barOf (by rw[hG];exact(b1.alloc (by omega) _).alloc (by simp;omega) _) []
  ·simp only[List.mem_cons,List.not_mem_nil,or_false] at hk
   rcases hk with rfl|rfl|rfl<;>omega
 clear sx sx2 mp b1 h1 h2
 have HM:=ae.mk hM
 clear hM hG hGl
 have hmm:(Instr.makeMap 99 none).run Tryz.prog w1=.ok (.map (some w1.heap.size)) (w1.alloc (.map #[] 0)):=run_makeMap _ w1
 go_enter Tryz.func18,Tryz.ntmps18
 go_wp2
 go_ret2
 rw[HM.out]
 exact R.out
end Disk
end Go.Proofs.YtlkeieoecfkkeaaGreat
