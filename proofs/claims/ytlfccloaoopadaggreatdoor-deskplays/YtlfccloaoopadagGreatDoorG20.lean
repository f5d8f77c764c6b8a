import Derived.Deep.RegionHeld3
import Derived.Test.YtlfccloaoopadagGreatDoorG1
set_option maxRecDepth 100000
set_option maxHeartbeats 0
namespace Go.Proofs.YtlfccloaoopadagGreatDoor
open Go
variable{p:Prop}
theorem lY{j a}{c:Exit->Act->World->Prop}{g}{d:World->Prop}{i o h v p f l k}{b:World}(w:a[i]? =some h)(t:h.dst=some o)(y:Region.noSelect a=true)(u:Region.free g a f i=true)(x:(Region.ready g a f).contains i=true)(r:∀n m b,c (.panic n) (m.put h.dst v) b->c (.panic n) m b)(z:YieldsIf j a d h v ⟨l,k⟩)(s:d b)(q:wpAnyH j g a c d p (f.setIfInBounds i true) ⟨l.setIfInBounds o v,k⟩ b):wpAnyH j g a c d (p+1) f ⟨l,k⟩ b:=by
 refine wpAnyH_take w y u x r z s ?_;rw[t];exact q
