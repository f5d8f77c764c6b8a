import Derived.BigQuiet
import Derived.Test.YtlfccloaoopadagGreatDoorG5
set_option maxRecDepth 100000
set_option maxHeartbeats 0
namespace Go.Proofs.YtlfccloaoopadagGreatDoor
open Go.ChangeShapes Go.WideShapes Go.ChangeAt Go.RowKit
variable{p:Prop}
structure Low (n:Nat) (w:World) where
 wd:World
 low:Below n w wd
instance (n:Nat)(w:World):Nonempty (Low n w):=⟨⟨w,Below.refl _ _⟩⟩
theorem dz{d m}{f:Exit->Act->World->Prop}{g:Act}{b:World}{l}(n)(k:d.follows .mixedOrders=true)(j:Region.lexB .any l.toArray=true)(h:wpQuiet d l.toArray (λa=>∃c:Low n b,a=c.wd) (λi=>∀a,(∃c:Low n b,a=c.wd)->f .normal i a) l g):(Code.region m l.toArray true).wp d f g b:=
 wp_region_quiet (C:=λa=>∃c:Low n b,a=c.wd) k j ⟨⟨b.drew,(Below.refl _ _).drew⟩,rfl⟩ Rg
theorem dy{d f g}{b:World}{a:Low b.heap.size b}{h}(i:Calls d f g a.wd λe c=>e=.returned h/\Below a.wd.heap.size a.wd c):Calls d f g a.wd λe l=>e=.returned h/\∃m:Low b.heap.size b,l=m.wd:=
 i.mono λ_ c ⟨k,j⟩=>⟨k,⟨c,a.low.trans (j.mono a.low.size)⟩,rfl⟩
theorem QW{b f c n}{g:World}{a:Low n g}{d}(h:Calls b f c a.wd λe k=>e=.returned d/\k=a.wd):Calls b f c a.wd λe l=>e=.returned d/\∃m:Low n g,l=m.wd:=
 h.mono λ_ _ ⟨j,i⟩=>⟨j,a,i⟩
theorem lo_{w:World}{b o:Nat}{v:Option Value}(h:b<w.heap.size)(k:w.cell? ⟨b,o,none⟩=v)(x:Low w.heap.size w):x.wd.cell? ⟨b,o,none⟩=v:=(bF x.low h).trans k
