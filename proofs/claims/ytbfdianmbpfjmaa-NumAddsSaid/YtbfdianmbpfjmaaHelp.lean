/- The statements' own helpers: short, same, fit. -/
import Derived.Test.YtbfdianmbpfjmaaDivf
namespace Go.Proofs.Ytbfdianmbpfjmaa
open Go.RowKit Go.MagM
theorem RMag.zero {w : World} {v : Value} {L : Nat} (h : RMag w v L 0) : ∃ ao c, v = .slice ao 0 c := by
  obtain ⟨ao, n, c, f, rfl, h2, h3, h4, h5, h6⟩ := h
  cases n with
  | zero => exact ⟨ao, c, rfl⟩
  | succ k =>
    exfalso
    have := h6.ge
    have := Bp k
    omega
end Go.Proofs.Ytbfdianmbpfjmaa
