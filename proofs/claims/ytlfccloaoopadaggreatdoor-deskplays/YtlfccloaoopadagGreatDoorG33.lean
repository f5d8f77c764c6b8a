import Derived.Shelf.SlSortCmp.NoneTotal
import Derived.Test.YtlfccloaoopadagGreatDoorProg
import Derived.Test.YtlfccloaoopadagGreatDoorG1
open Go.Proofs.Tryz
set_option maxRecDepth 100000
set_option maxHeartbeats 0
namespace Go.Proofs.YtlfccloaoopadagGreatDoor
open Go.Shelf
variable{p:Prop}
def Hi:Go.Shelf.Ren:=⟨fun|6=>210|15=>246|14=>245|28=>271|29=>249|20=>263|21=>264|22=>265|23=>266|24=>267|25=>268|26=>269|27=>270|46=>275|47=>276|48=>277|49=>278|50=>279|57=>284|n=>n,fun|22=>86|24=>140|25=>265|3=>3|39=>160|0=>0|53=>201|55=>276|4=>4|46=>317|45=>316|50=>145|5=>5|9=>9|66=>323|70=>327|76=>331|77=>332|n=>n,fun|n=>n⟩
theorem Vq(h:p:=by kernel_rfl):p:=h
theorem Vr(h:p:=by decide):p:=h
theorem Av:Go.Proofs.SlLaysF0.n6 prog Hi:={
 mixed:=Vq
 f6:=⟨f210.name,Vr,func210.trans (congrArg some Vq)⟩
 f14:=⟨f245.name,Vr,func245.trans (congrArg some Vq)⟩
 f15:=func246.trans (congrArg some Vq)
 f20:=⟨f263.name,Vr,func263.trans (congrArg some Vq)⟩
 f21:=⟨f264.name,Vr,func264.trans (congrArg some Vq)⟩
 f22:=⟨f265.name,Vr,func265.trans (congrArg some Vq)⟩
 f23:=⟨f266.name,Vr,func266.trans (congrArg some Vq)⟩
 f24:=⟨f267.name,Vr,func267.trans (congrArg some Vq)⟩
 f25:=⟨f268.name,Vr,func268.trans (congrArg some Vq)⟩
 f26:=⟨f269.name,Vr,func269.trans (congrArg some Vq)⟩
 f27:=⟨f270.name,Vr,func270.trans (congrArg some Vq)⟩
 f28:=func271.trans (congrArg some Vq)
 f29:=func249.trans (congrArg some Vq)
 f46:=⟨f275.name,Vr,func275.trans (congrArg some Vq)⟩
 f47:=func276.trans (congrArg some Vq)
 f48:=func277.trans (congrArg some Vq)
 f49:=⟨f278.name,Vr,func278.trans (congrArg some Vq)⟩
 f50:=⟨f279.name,Vr,func279.trans (congrArg some Vq)⟩
 f57:=⟨f284.name,Vr,func284.trans (congrArg some Vq)⟩
 t0:=underlying0
 a0:=isAgg0
 z0:=sizeOf0
 v0:=zeroValue0
 t3:=underlying3
 a3:=isAgg3
 z3:=sizeOf3
 v3:=zeroValue3
 t4:=underlying4
 a4:=isAgg4
 z4:=sizeOf4
 v4:=zeroValue4
 t5:=underlying5
 a5:=isAgg5
 z5:=sizeOf5
 v5:=zeroValue5
 t9:=underlying9
 a9:=isAgg9
 z9:=sizeOf9
 v9:=zeroValue9
 t22:=underlying86
 a22:=isAgg86
 z22:=sizeOf86
 v22:=zeroValue86
 t25:=underlying265
 a25:=isAgg265
 z25:=sizeOf265
 v25:=zeroValue265
 t39:=underlying160
 a39:=isAgg160
 z39:=sizeOf160
 v39:=zeroValue160
 t45:=underlying316
 a45:=isAgg316
 z45:=sizeOf316
 v45:=zeroValue316
 t46:=underlying317
 a46:=isAgg317
 z46:=sizeOf317
 v46:=zeroValue317
 t50:=underlying145
 a50:=isAgg145
 z50:=sizeOf145
 v50:=zeroValue145
 t53:=underlying201
 a53:=isAgg201
 z53:=sizeOf201
 v53:=zeroValue201
 t55:=underlying276
 a55:=isAgg276
 z55:=sizeOf276
 v55:=zeroValue276
 t66:=underlying323
 a66:=isAgg323
 z66:=sizeOf323
 v66:=zeroValue323
 t70:=underlying327
 a70:=isAgg327
 z70:=sizeOf327
 v70:=zeroValue327
 t76:=underlying331
 a76:=isAgg331
 z76:=sizeOf331
 v76:=zeroValue331
 t77:=underlying332
 a77:=isAgg332
 z77:=sizeOf332
 v77:=zeroValue332}
