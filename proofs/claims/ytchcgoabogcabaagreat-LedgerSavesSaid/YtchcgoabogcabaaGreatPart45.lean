/-
  Parts laid together: LedgerConf.
-/
import Derived.Test.YtchcgoabogcabaaGreatPart25
import Derived.Deep.Matrix
namespace Go.Proofs.YtchcgoabogcabaaGreat.Ledger
open Go.RowKit Go.Proofs.YtchcgoabogcabaaGreat.Sha Go.Proofs.YtchcgoabogcabaaGreat.Wire Go.Proofs.YtchcgoabogcabaaGreat.Req Go.ChangeShapes Go.WideShapes Go.Deep
set_option maxRecDepth 100000 in
theorem conf_arg {H:Type}{enc:TypeId × Value→H}{W:World}{r:Go.Reach}{b0 base:Nat}{held:Bool}{v:Value}{d:DataW H}{p:List MemPlace}
  (hv:Value.okWide Tryz.prog W r b0 24 v) (h:DataW.Trod enc Tryz.prog W base (fun _=>true) held 24 v d p):∃ (A:Option Addr) (n c:Nat) (k:Int) (X:Nat→List Int),v=.agg #[.slice A n c,.int .i64 k]∧n≤9223372036854775807∧Rwi W A n X:=by
 obtain⟨v0,v1,y0,y1,n,rfl,-,-,h0,h1⟩:=Go.Joins.open_agg2 Tryz.underlying24 (by kernel_rfl) (by kernel_rfl) hv h
 obtain⟨A,l,c,rfl⟩:=slice_shape Tryz.underlying22 h0
 obtain⟨z1,rfl,-⟩:=int_field Tryz.underlying3 h1
 have w0:(A=none∧l=0∧c=0)∨∃ (x:Addr) (A':Nat→Option Addr) (L C:Nat→Nat) (Z:Nat→List Int),A=some x∧l≤c∧c≤maxLen∧∀ r,r < c→W.cell? (x.add r)=some (.slice (A' r) (L r) (C r))∧L r≤C r∧C r≤maxLen∧(Z r).length=C r∧(∀ n∈Z r,(Lit.int .i64 n).wf=true)∧(A' r=none→C r=0)∧∀ a':Addr,A' r=some a'→0≤a'.block∧∀ q,q < C r→W.cell? (a'.add q)=some (.int .i64 ((Z r).getD q 0)):=by
  rcases Deep.open_int_rows Tryz.underlying22 Tryz.underlying41 Tryz.underlying3 (by kernel_rfl) (by kernel_rfl) h0 with⟨hcs,_⟩|⟨x,l',c',A',L,C,Z,hcs,_,hl,hm,_,hrow⟩
  ·simp at hcs
   obtain⟨rfl,rfl,rfl⟩:=hcs
   exact .inl ⟨rfl,rfl,rfl⟩
  ·simp at hcs
   obtain⟨rfl,rfl,rfl⟩:=hcs
   refine .inr ⟨_,A',L,C,Z,rfl,hl,hm,fun r hr=>?_⟩
   obtain⟨k1,k2,k3,k4,k5,k6,k7⟩:=hrow r hr
   exact⟨k1,k2,k3,k4,k5,k6,fun a' ha=>⟨Nat.zero_le _,(k7 a' ha).2⟩⟩
 obtain⟨k1,X,k2⟩:=rwi_of_row w0
 exact⟨A,l,c,z1,X,rfl,k1,k2⟩
end Go.Proofs.YtchcgoabogcabaaGreat.Ledger
