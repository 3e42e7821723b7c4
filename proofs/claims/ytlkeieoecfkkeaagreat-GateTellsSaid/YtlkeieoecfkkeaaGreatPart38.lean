/-
  Parts laid together: VaultMake.
-/
import Derived.Test.YtlkeieoecfkkeaaGreatPart17
import Derived.Test.YtlkeieoecfkkeaaGreatPart23
import Derived.Lib.SmallJoins
namespace Go.Proofs.YtlkeieoecfkkeaaGreat.Vault
open Go.RowKit Go.Proofs.YtlkeieoecfkkeaaGreat.Num Go.Proofs.YtlkeieoecfkkeaaGreat.Sha Go.Proofs.YtlkeieoecfkkeaaGreat.Purse Go.Proofs.YtlkeieoecfkkeaaGreat.Escrow Go.Proofs.YtlkeieoecfkkeaaGreat.Wire Go.Proofs.YtlkeieoecfkkeaaGreat.Req Go.Proofs.YtlkeieoecfkkeaaGreat.Disk Go.Proofs.YtlkeieoecfkkeaaGreat.Frame
def L0:LM:=⟨none,0,0,none,0,0⟩
def Z6:Array Value:=#[.int .i64 0,.int .i64 0,.int .i64 0,.int .i64 0,.slice none 0 0,.slice none 0 0]
theorem z6_is:lastC (T0,L0)=Z6.toList:=rfl
theorem rep_at (n j:Nat) (hj:j < n * 6):((List.replicate n (T0,L0)).flatMap lastC)[j]?=Z6[j % 6]?:=by
 induction n generalizing j with
 | zero=>omega
 | succ n ih =>
  rw[List.replicate_succ,List.flatMap_cons]
  by_cases h:j < 6
  ·rw[List.getElem?_append_left (by rw[lastC_len];exact h),Nat.mod_eq_of_lt h,z6_is,Array.getElem?_toList]
  ·rw[List.getElem?_append_right (by rw[lastC_len];omega),lastC_len,ih (j - 6) (by omega)]
   congr 1
   omega
theorem made_last (w:World) (n:Nat) (h2:n≤8192):∃ w',(Instr.makeSlice 118 (.int .i64 (n:Int)) (.int .i64 (n:Int))).run Tryz.prog w=.ok (.slice (some ⟨w.heap.size,0,none⟩) n n) w'∧Ow lastC 6 141 w' (.slice (some ⟨w.heap.size,0,none⟩) n n) (List.replicate n (T0,L0))∧Below w.heap.size w w':=by
 have hi0:(Tryz.prog.info? 141).map (fun i=>(i.zero,i.size,i.bytes))=some (some (.agg Z6),6,80):=by kernel_rfl
 obtain⟨iu,hi,hz0,hz1,hz2⟩:=info_parts hi0
 obtain⟨w',hm,own,gr⟩:=run_makeSlice_full (P:=Tryz.prog) w w.heap.size 118 141 iu _ 6 Tryz.underlying118 hi hz0 hz1 .i64 .i64 n (by omega) (by rw[hz2];omega) (by unfold maxLen;omega) (Nat.le_refl _)
 refine⟨w',hm,?_,⟨gr.os,gr.tape,gr.output,gr.size,fun k hk=>gr.block k hk (by simp)⟩⟩
 have e:(madeCells (Value.agg Z6).cells (n * 6)).toList=(List.replicate n (T0,L0)).flatMap lastC:=by
  apply List.ext_getElem?
  intro j
  have hl:((List.replicate n (T0,L0)).flatMap lastC).length=n * 6:=by
   rw[List.length_flatMap];simp[lastC_len]
  by_cases hj:j < n * 6
  ·rw[rep_at n j hj]
   rw[show (Value.agg Z6).cells=Z6 from rfl]
   unfold madeCells
   rw[Array.getElem?_toList,Array.getElem?_map,Array.getElem?_range,if_pos hj]
   have h6:j % 6 < 6:=Nat.mod_lt _ (by omega)
   simp only[Option.map_some,show Z6.size=6 from rfl]
   rw[getElem!_def]
   have:∃ v,Z6[j % 6]?=some v:=⟨Z6[j % 6]'h6,Array.getElem?_eq_getElem h6⟩
   obtain⟨v,hv⟩:=this
   rw[hv]
  ·rw[List.getElem?_eq_none (show (madeCells (Value.agg Z6).cells (n * 6)).toList.length≤j by simp[madeCells];omega),List.getElem?_eq_none (by rw[hl];omega)]
 rw[e] at own
 unfold Ow
 rw[List.length_replicate]
 exact Go.Joins.ownsRow_le own (Nat.zero_le _)
theorem vp_new {w:World}{H FL:List Nat}{x t d j y n k g c:Nat}{s:DS}{v:Journal.JV}{s0:Ledger.LS}(hb:Blk w x 120 #[.pointer (some ⟨j,0,none⟩),.pointer (some ⟨y,0,none⟩),.slice (some ⟨g,0,none⟩) k c,.bool false,.int .i64 0]) (sy:Journal.Sy Journal.Cj w H t d j n s v) (lk:Ledger.Lk w t FL y s0)
  (row:Ow lastC 6 141 w (.slice (some ⟨g,0,none⟩) k c) (List.replicate k (T0,L0))) (hxH:x∉H) (hxF:x∉FL) (hL:Disj FL H) (hgH:g∉H) (hgF:g∉FL) (hgx:g≠x) :
  Vp w x t d j y n H FL [] (.slice (some ⟨g,0,none⟩) k c) (List.replicate k (T0,L0)) ⟨s,v,newV s0 k,false,0⟩:=by
 have own:∀ z∈(Value.slice (some ⟨g,0,none⟩) k c).ownBlock.toList,z=g:=fun z hz=>by
  have:=Option.mem_toList.1 hz
  injection this with this
  exact this.symm
 exact⟨hb,sy,lk,row,by simp[newV,T0,L0],fun p hp=>by
  have:=List.eq_of_mem_replicate hp
  subst this
  exact⟨Rc.nil,Rc.nil,⟨Nat.le_refl _,by decide⟩,⟨Nat.le_refl _,by decide⟩,.inl rfl,.inl rfl⟩,by simp,hxH,hxF,by simp,hL,fun _ h=>by simp at h,fun _ h=>by simp at h,
  fun z hz=>by rw[own z hz];exact hgH,fun z hz=>by rw[own z hz];exact hgF,by simp,fun z hz=>by rw[own z hz];exact hgx⟩
end Go.Proofs.YtlkeieoecfkkeaaGreat.Vault
