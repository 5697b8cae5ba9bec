/- The statements of layer 1, walked: MagDivs, MagBack, MagLaws. -/
import Derived.Test.YtbfdianmbpfjmaaDoorFit
namespace Go.Proofs.YtbfdianmbpfjmaaDoor
open Go.RowKit Go.MagM
theorem nil_mag (w : World) : Mag w (.slice none 0 0) 0 0 := (RMag.nil w).mag
theorem RMag_eq {w : World} {v : Value} {L N N' : Nat} (h : RMag w v L N) (e : N = N') : RMag w v L N' := e ▸ h
theorem Mag_eq {w : World} {v : Value} {L N N' : Nat} (h : Mag w v L N) (e : N = N') : Mag w v L N' := e ▸ h
end Go.Proofs.YtbfdianmbpfjmaaDoor
