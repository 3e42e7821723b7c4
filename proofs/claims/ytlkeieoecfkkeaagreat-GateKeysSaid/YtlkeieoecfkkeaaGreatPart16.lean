/-
  Parts laid together: DiskMap.
-/
import Derived.Test.YtlkeieoecfkkeaaGreatPart2
import Derived.Test.YtlkeieoecfkkeaaGreatPart7
import Derived.Maps.OwnSet
import Derived.Maps.Ext
import Derived.Lib.SlKeysI
namespace Go.Proofs.YtlkeieoecfkkeaaGreat.Disk
open Go.RowKit Go.Proofs.YtlkeieoecfkkeaaGreat.Sha Go.Maps
open Go.WideElems (Fit rd rg pl)
open Go.ChangeMaps Go.MapKept
def secD (xs:List Int):DataW Unit:=.agg (xs.map fun x=>.lit (.int .u8 x))
theorem secD_inj {xs ys:List Int}(h:secD xs=secD ys):xs=ys:=by
  unfold secD at h
  injection h with h
  induction xs generalizing ys with
  | nil=>cases ys with
    | nil=>rfl
    | cons y ys=>simp at h
  | cons x xs ih=>cases ys with
    | nil=>simp at h
    | cons y ys =>
      simp only[List.map_cons,List.cons.injEq] at h
      obtain⟨h1,h2⟩:=h
      injection h1 with h1
      injection h1 with _ h1
      rw[h1,ih h2]
def u8Of:Value→Option Int
 | .int .u8 a=>some a
 | _=>none
def Rsec:Value→Option (DataW Unit × List MemPlace)
 | .agg cs=>(cs.toList.mapM u8Of).map fun xs=>(secD xs,[])
 | _=>none
theorem u8_map (xs:List Int):(ints .u8 xs).mapM u8Of=some xs:=by
 induction xs with
 | nil=>rfl
 | cons x xs ih =>
  unfold ints at ih ⊢
  rw[List.map_cons,List.mapM_cons,ih]
  rfl
theorem u8_inv {l:List Value}:∀ {xs:List Int},l.mapM u8Of=some xs→l=ints .u8 xs:=by
 induction l with
 | nil =>
  intro xs h
  simp at h
  subst h;rfl
 | cons v l ih =>
  intro xs h
  rw[List.mapM_cons] at h
  cases hv:u8Of v with
  | none=>rw[hv] at h;simp at h
  | some a =>
   cases hl:l.mapM u8Of with
   | none=>rw[hv,hl] at h;simp at h
   | some ys =>
    rw[hv,hl] at h
    simp at h
    subst h
    rw[ih hl]
    have:v=.int .u8 a:=by
     unfold u8Of at hv
     split at hv
     ·injection hv with hv;rw[hv]
     ·cases hv
    rw[this]
    rfl
theorem rsec_mk (xs:List Int):Rsec (.agg (arr .u8 xs))=some (secD xs,[]):=by
 unfold Rsec arr
 simp[u8_map]
theorem rsec_inv {v:Value}{d:DataW Unit}{ps:List MemPlace}(h:Rsec v=some (d,ps)):∃ xs,v=.agg (arr .u8 xs)∧d=secD xs:=by
 unfold Rsec at h
 split at h
 ·rename_i cs
  cases hx:cs.toList.mapM u8Of with
  | none=>rw[hx] at h;simp at h
  | some xs =>
   rw[hx] at h
   simp at h
   refine⟨xs,?_,h.1.symm⟩
   have:=u8_inv hx
   unfold arr
   rw[← this]
 ·cases h
theorem keyI (i:Nat) (h:i < 9000):keyOf Tryz.prog 3 (.int .i64 (i:Int))=some (.int .i64 (i:Int)):=keyOf_int_mk Tryz.underlying3 (by rw[Lit.wf_int_iff];simp only[show IntKind.i64.min=-9223372036854775808 from rfl,show IntKind.i64.max=9223372036854775807 from rfl];omega)
theorem keyedI:Keyed Tryz.prog 3:=int_keyed Tryz.underlying3
def Mp (w:World) (g:Nat) (p:List Nat) (L:List (List Int)):Prop:=∃ D:DataW Unit,w.ownsMap Tryz.prog 3 Rsec g p.length D∧p.Nodup∧(∀ i:Nat,has D (.int .i64 (i:Int))=decide (i∈p))∧(∀ x:Int,x < 0→has D (.int .i64 x)=false)∧(∀ i∈p,∀ z,D.atKey (.int .i64 (i:Int)) z=secD (rowOf L i))∧Maps.size D=p.length
theorem Mp.lt {w:World}{g:Nat}{p:List Nat}{L:List (List Int)}(h:Mp w g p L):g < w.heap.size:=by
 obtain⟨D,h1,-⟩:=h
 exact h1.lt
theorem own_bar {P:Program}{k:TypeId}{R:Value→Option (DataW Unit × List MemPlace)}{w w':World}{b n:Nat}{D:DataW Unit}{G:List Nat}(h:w.ownsMap P k R b n D) (hb:Bar G w w') (hg:b∉G):w'.ownsMap P k R b n D:=by
 have hl:=h.lt
 obtain⟨es,clock,h1,h2⟩:=h
 exact⟨es,clock,(hb.block b hl hg).trans h1,h2⟩
theorem Mp.bar {w w':World}{g:Nat}{p:List Nat}{L:List (List Int)}{G:List Nat}(h:Mp w g p L) (b:Bar G w w') (hg:g∉G):Mp w' g p L:=by
 obtain⟨D,h1,h2⟩:=h
 exact⟨D,Disk.own_bar h1 b hg,h2⟩
theorem Mp.ne {w:World}{g b:Nat}{p:List Nat}{L:List (List Int)}{t:TypeId}{cs:Array Value}(h:Mp w g p L) (k:Blk w b t cs):g≠b:=by
 rintro rfl
 obtain⟨D,⟨es,clock,h1,-⟩,-⟩:=h
 unfold Blk at k
 rw[h1] at k
 cases k
theorem mp_empty (w:World) (g c:Nat) (L:List (List Int)) (h:w.heap[g]?=some (.map #[] c)):Mp w g [] L:=by
 refine⟨.map [],⟨#[],c,h,⟨by simp,MapKept.stamped_empty c,by simp⟩,by simp,rfl⟩,by simp,fun i=>?_,fun x _=>rfl,by simp,rfl⟩
 simp[has]
theorem mp_new (w:World) (L:List (List Int)):Mp (w.alloc (.map #[] 0)) w.heap.size [] L:=mp_empty _ _ 0 _ (heap_alloc_new w _)
def zsec:Value:=.agg (arr .u8 (List.replicate 64 0))
theorem Mp.look {w:World}{g:Nat}{p:List Nat}{L:List (List Int)}(h:Mp w g p L) (i:Nat) (hi:i < 9000) (h64:(rowOf L i).length=64):∃ xs,xs.length=64∧(Instr.lookup 99 (.map (some g)) (.int .i64 (i:Int)) true).run Tryz.prog w=.ok (.tuple #[.agg (arr .u8 xs),.bool (decide (i∈p))]) w:=by
 obtain⟨D,h1,-,h3,-,h5,-⟩:=h
 obtain⟨v,ps,hrun,hv⟩:=h1.look_ok keyedI Tryz.underlying99 (z:=zsec) (Tryz.zeroValue263 w) (rsec_mk _) (keyI i hi)
 rw[h3] at hrun
 by_cases hp:i∈p
 ·rw[h5 i hp] at hv
  obtain⟨xs,rfl,hx⟩:=rsec_inv hv
  exact⟨xs,by rw[← secD_inj hx];exact h64,hrun⟩
 ·rw[atKey_of_not_has (by rw[h3];simpa using hp)] at hv
  obtain⟨xs,rfl,hx⟩:=rsec_inv hv
  exact⟨xs,by rw[← secD_inj hx];simp,hrun⟩
theorem Mp.at_ {w:World}{g:Nat}{p:List Nat}{L:List (List Int)}(h:Mp w g p L) (i:Nat) (hi:i < 9000) (hp:i∈p):(Instr.lookup 99 (.map (some g)) (.int .i64 (i:Int)) false).run Tryz.prog w=.ok (.agg (arr .u8 (rowOf L i))) w:=by
 obtain⟨D,h1,-,h3,-,h5,-⟩:=h
 obtain⟨v,ps,hrun,hv⟩:=h1.lookup keyedI Tryz.underlying99 (z:=zsec) (Tryz.zeroValue263 w) (rsec_mk _) (keyI i hi)
 rw[h5 i hp] at hv
 obtain⟨xs,rfl,hx⟩:=rsec_inv hv
 rw[secD_inj hx]
 exact hrun
theorem Mp.len {w:World}{g:Nat}{p:List Nat}{L:List (List Int)}(h:Mp w g p L) (ty:TypeId):(Builtin.len_ #[99] ty #[.map (some g)]).run Tryz.prog w=.ok (.int .i64 (p.length:Nat)) w:=by
 obtain⟨D,h1,-,-,-,-,h6⟩:=h
 rw[← h6]
 exact h1.len Tryz.underlying99 ty
theorem setBlock_bar {w:World}{g:Nat}(o:Obj):Bar [g] w (setBlock w g o):=⟨rfl,rfl,rfl,by simp[setBlock],fun k _ hn=>by
 have hk:k≠g:=by simpa using hn
 simp[setBlock,Ne.symm hk]⟩
theorem Mp.clear {w:World}{g:Nat}{p:List Nat}{L:List (List Int)}(h:Mp w g p L) (L':List (List Int)):∃ w',(∀ ty,(Builtin.clear_ #[99] ty #[.map (some g)]).run Tryz.prog w=.ok (.tuple #[]) w')∧Mp w' g [] L'∧Bar [g] w w':=by
 obtain⟨D,⟨es,clock,h1,-⟩,-⟩:=h
 refine⟨setBlock w g (.map #[] clock),fun ty=>?_,mp_empty _ _ clock _ (heap_setBlock_same h1 _),setBlock_bar _⟩
 simp[Builtin.clear_,run_underlying Tryz.underlying99,MapKept.run_getObj_map h1,MapKept.run_setObj_map _ h1,Result.andThen,setBlock]
theorem mem_ins_nodup {i:Nat}{p:List Nat}(h:p.Pairwise (· < ·)):(ins i p).Nodup:=(ins_rise i p h).imp (fun hlt=>by omega)
theorem ins_len {i:Nat}{p:List Nat}(h:i∉p):(ins i p).length=p.length+1:=by
 induction p with
 | nil=>rfl
 | cons k l ih =>
  have h1:i≠k:=fun e=>h (by simp[e])
  have h2:i∉l:=fun e=>h (by simp[e])
  unfold ins
  split
  ·simp[ih h2]
  ·split
   ·rename_i e;exact absurd e.symm h1
   ·simp
theorem litI_ne {i j:Nat}(h:i≠j):(Lit.int .i64 (i:Int))≠.int .i64 (j:Int):=fun e=>by injection e with _ e;omega
theorem Mp.put {w:World}{g:Nat}{p:List Nat}{L:List (List Int)}(h:Mp w g p L) (i:Nat) (hi:i < 9000) (hp:i∉p) (hr:p.Pairwise (· < ·)) (hl:p.length < 9000) (xs:List Int) (hx:rowOf L i=xs) :
  ∃ w',(Instr.mapUpdate 99 (.map (some g)) (.int .i64 (i:Int)) (.agg (arr .u8 xs))).run Tryz.prog w=.ok () w'∧Mp w' g (ins i p) L∧Bar [g] w w':=by
 obtain⟨D,h1,h2,h3,h4,h5,h6⟩:=h
 obtain⟨w',hrun,own,gr⟩:=h1.update keyedI Tryz.underlying99 (by unfold maxLen;omega) (keyI i hi) (rsec_mk xs)
 have hk:WideAt.IsKeyLit (.int .i64 (i:Int)):=trivial
 have hno:has D (.int .i64 (i:Int))=false:=by rw[h3];simpa using hp
 have hsz:Maps.size (D.put (.int .i64 (i:Int)) (secD xs))=p.length+1:=by
  rw[size_put (h1.tidy keyedI),if_neg (by rw[hno];decide),h6]
 refine⟨w',hrun,⟨D.put (.int .i64 (i:Int)) (secD xs),?_,mem_ins_nodup hr,fun j=>?_,fun x hx0=>?_,fun j hj z=>?_,?_⟩,⟨gr.os,gr.tape,gr.output,gr.size,fun k hk hn=>gr.block k hk (fun e=>hn (by injection e with e;simp[e]))⟩⟩
 ·rw[ins_len hp];exact own
 ·by_cases hij:j=i
  ·subst hij
   rw[has_put_same h1.isMap hk]
   simp[ins_mem]
  ·rw[has_put_other (litI_ne hij),h3]
   simp[ins_mem,hij]
 ·rw[has_put_other (fun e=>by injection e with _ e;omega)]
  exact h4 x hx0
 ·by_cases hij:j=i
  ·subst hij
   rw[atKey_put_same h1.isMap hk,hx]
  ·rw[atKey_put_other (litI_ne hij)]
   exact h5 j (((ins_mem i j p).1 hj).resolve_left hij) z
 ·rw[hsz,ins_len hp]
end Go.Proofs.YtlkeieoecfkkeaaGreat.Disk
