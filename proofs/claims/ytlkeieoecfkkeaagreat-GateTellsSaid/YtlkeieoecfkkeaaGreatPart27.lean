/-
  Parts laid together: VaultC2 VaultC3 VaultC4.
-/
import Derived.Test.YtlkeieoecfkkeaaGreatPart23
import Derived.Test.YtlkeieoecfkkeaaGreatPart26
namespace Go.Proofs.YtlkeieoecfkkeaaGreat.Vault
open Go.RowKit Go.Proofs.YtlkeieoecfkkeaaGreat.Num Go.Proofs.YtlkeieoecfkkeaaGreat.Sha Go.Proofs.YtlkeieoecfkkeaaGreat.Purse Go.Proofs.YtlkeieoecfkkeaaGreat.Escrow Go.Proofs.YtlkeieoecfkkeaaGreat.Wire Go.Proofs.YtlkeieoecfkkeaaGreat.Req Go.Proofs.YtlkeieoecfkkeaaGreat.Disk Go.Proofs.YtlkeieoecfkkeaaGreat.Frame
section
variable {w : World}
end
section
variable {w : World}
end
section
variable {w : World} {HJ FL I : List Nat} {x t d j y n : Nat} {lv : Value} {l : List (TV × LM)} {m : MV} {s0 : Ledger.LS}
theorem Vp.below {w':World}(h:Vp w x t d j y n HJ FL I lv l m) (b:Below w.heap.size w w'):Vp w' x t d j y n HJ FL I lv l m:=h.keep (barOf b []) (fun _ _=>by simp)
theorem Vp.cells {w':World}(h:Vp w x t d j y n HJ FL I lv l m) (b:Below w.heap.size w w') {k:Nat}(hk:k < m.v.t.length) {A:Option Addr}{c:Nat}(hlv:lv=.slice A m.v.t.length c):∃ g go q,A=some ⟨g,go,none⟩∧El w I (tAt m.v k,q)∧El w' I (tAt m.v k,q) ∧
  ∀ i u,(lastC (tAt m.v k,q))[i]?=some u→w'.cell? ⟨g,go+k * 6+i,none⟩=some u:=by
 obtain⟨q,hq,el⟩:=h.at_ hk
 have h':=h.below b
 obtain⟨A2,c2,e2,-,-,-,hrc⟩:=h'.list
 rw[hlv] at e2
 injection e2 with e2 _ _
 subst e2
 obtain⟨g,go,z,hA,hz,hzc⟩:=hrc.at_ hk
 rw[hq] at hz
 injection hz with hz
 subst hz
 exact⟨g,go,q,hA,el,el.keep (barOf b []) (fun _ _=>by simp),hzc⟩
end
end Go.Proofs.YtlkeieoecfkkeaaGreat.Vault
