/-
  Package disk meets the contracts of its calls.
-/
import Derived.Test.YtgjmnefninmoiaaDiskCode4
namespace Go.Proofs.Ytgjmnefninmoiaa.Disk
open Go.RowKit Go.Proofs.Ytgjmnefninmoiaa.Sha

theorem api : DiskApi Dk where
  wf h := h.1
  lts h := h.lts
  keep h b j := h.keep b j
  bad w n h := (cnew_bad w n h).mono fun _ _ ⟨a, b⟩ => by subst b; exact ⟨a, Below.refl _ _⟩
  new w n h1 h2 := cnew_ok w n h1 h2
  write := by
    intro w F d n s i A l c xs h r o _ _
    exact cwrite_any i h r o
  read i h := cread_any i h
  sync h := csync_any h
  fuse f h hf := cfuse_any f h hf
  crash := by
    intro w F d n s A m c bs h r o _ _
    exact ccrash_any h r o
  pending h := (cpending_any h).mono fun _ _ ⟨a, b⟩ => by subst b; exact ⟨a, Below.refl _ _⟩
  down h := (cdown_any h).mono fun _ _ ⟨a, b⟩ => by subst b; exact ⟨a, Below.refl _ _⟩
  len h := (clen_any h).mono fun _ _ ⟨a, b⟩ => by subst b; exact ⟨a, Below.refl _ _⟩
end Go.Proofs.Ytgjmnefninmoiaa.Disk
