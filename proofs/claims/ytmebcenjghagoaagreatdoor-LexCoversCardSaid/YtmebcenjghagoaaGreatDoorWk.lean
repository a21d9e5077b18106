/-
  The chapter's examples, reckoned by the kernel. No condition.
-/
import Derived.Test.YtmebcenjghagoaaGreatDoorRefT
import Derived.KernelRfl
namespace Go.Proofs.YtmebcenjghagoaaGreatDoor
def ex1 : ByteArray := ⟨#[120, 49, 32, 61, 32, 48, 120, 49, 70, 59, 32, 47, 47, 32, 101, 110, 100]⟩
theorem ex2_lex : lexS ⟨#[97, 60, 60, 61, 50]⟩ = ([⟨1, 0, 1, ⟨#[97]⟩, 0⟩, ⟨3, 1, 1, ⟨#[60, 60]⟩, 0⟩, ⟨3, 3, 1, ⟨#[61]⟩, 0⟩, ⟨2, 4, 1, ⟨#[50]⟩, 2⟩, ⟨0, 5, 1, ⟨#[]⟩, 0⟩], (0, 0)) := by kernel_rfl
theorem ex1_lex : lexS ex1 = ([⟨1, 0, 1, ⟨#[120, 49]⟩, 0⟩, ⟨3, 3, 1, ⟨#[61]⟩, 0⟩, ⟨2, 5, 1, ⟨#[48, 120, 49, 70]⟩, 31⟩, ⟨3, 9, 1, ⟨#[59]⟩, 0⟩, ⟨0, 17, 1, ⟨#[]⟩, 0⟩], (0, 0)) := by kernel_rfl
theorem ex3_lex : lexS ⟨#[]⟩ = ([⟨0, 0, 1, ⟨#[]⟩, 0⟩], (0, 0)) := by kernel_rfl
theorem fx1 : lexS ⟨#[49, 50, 97, 98]⟩ = ([], (7, 2)) := by kernel_rfl
theorem fx2 : lexS ⟨#[48, 120]⟩ = ([], (7, 2)) := by kernel_rfl
theorem fx3 : lexS ⟨#[52, 50, 57, 52, 57, 54, 55, 50, 57, 54]⟩ = ([], (10, 0)) := by kernel_rfl
theorem fx4 : lexS ⟨#[97, 36]⟩ = ([], (7, 1)) := by kernel_rfl
end Go.Proofs.YtmebcenjghagoaaGreatDoor
