import Derived.Shelf.SlGeneric
import Derived.Shelf.SlSortCmp.InsertionK
import Derived.Shelf.SlicesG.SearchI
import Derived.Ground.SlsfProg
import Derived.Ground.SlgnProg
import Derived.Test.YtammmemfkpcpcaaGreatProg
namespace Go.Proofs
open Go.Shelf
def Tryz.mSortI_ren:Go.Shelf.Ren:=⟨fun|20=>163|n=>n,fun|24=>61|22=>52|3=>3|25=>119|4=>4|0=>0|n=>n,fun|n=>n⟩
theorem Tryz.mSortI:Go.Proofs.SlLaysF0.n20 Tryz.prog Tryz.mSortI_ren:={
  mixed:=by kernel_rfl
  f20:=⟨Tryz.f163.name,by decide,Tryz.func163.trans (congrArg some (by kernel_rfl))⟩
  t0:=Tryz.underlying0
  a0:=Tryz.isAgg0
  z0:=Tryz.sizeOf0
  v0:=Tryz.zeroValue0
  t3:=Tryz.underlying3
  a3:=Tryz.isAgg3
  z3:=Tryz.sizeOf3
  v3:=Tryz.zeroValue3
  t4:=Tryz.underlying4
  a4:=Tryz.isAgg4
  z4:=Tryz.sizeOf4
  v4:=Tryz.zeroValue4
  t22:=Tryz.underlying52
  a22:=Tryz.isAgg52
  z22:=Tryz.sizeOf52
  v22:=Tryz.zeroValue52
  t25:=Tryz.underlying119
  a25:=Tryz.isAgg119
  z25:=Tryz.sizeOf119
  v25:=Tryz.zeroValue119}
def Tryz.mBin_ren:Go.Shelf.Ren:=⟨fun|49=>148|59=>180|60=>184|68=>123|n=>n,fun|22=>75|23=>3|3=>3|4=>4|51=>30|0=>0|n=>n,fun|n=>n⟩
theorem Tryz.mBin:Go.Proofs.SlLaysN.n49 Tryz.prog Tryz.mBin_ren:={
  mixed:=by kernel_rfl
  f49:=⟨Tryz.f148.name,by decide,Tryz.func148.trans (congrArg some (by kernel_rfl))⟩
  f59:=⟨Tryz.f180.name,by decide,Tryz.func180.trans (congrArg some (by kernel_rfl))⟩
  f60:=⟨Tryz.f184.name,by decide,Tryz.func184.trans (congrArg some (by kernel_rfl))⟩
  f68:=⟨Tryz.f123.name,by decide,Tryz.func123.trans (congrArg some (by kernel_rfl))⟩
  t0:=Tryz.underlying0
  a0:=Tryz.isAgg0
  z0:=Tryz.sizeOf0
  v0:=Tryz.zeroValue0
  t3:=Tryz.underlying3
  a3:=Tryz.isAgg3
  z3:=Tryz.sizeOf3
  v3:=Tryz.zeroValue3
  t4:=Tryz.underlying4
  a4:=Tryz.isAgg4
  z4:=Tryz.sizeOf4
  v4:=Tryz.zeroValue4
  t22:=Tryz.underlying75
  a22:=Tryz.isAgg75
  z22:=Tryz.sizeOf75
  v22:=Tryz.zeroValue75
  t23:=Tryz.underlying3
  a23:=Tryz.isAgg3
  z23:=Tryz.sizeOf3
  v23:=Tryz.zeroValue3
  t51:=Tryz.underlying30
  a51:=Tryz.isAgg30
  z51:=Tryz.sizeOf30
  v51:=Tryz.zeroValue30}
end Go.Proofs
