import Derived.Deep.RegionHeld3
import Derived.RangeFuncNested
import Derived.OrdersIn
import Derived.TacticsIn
import Derived.Test.YtlfccloaoopadagGreatDoorG1
set_option maxRecDepth 100000
set_option maxHeartbeats 0
namespace Go.Proofs.YtlfccloaoopadagGreatDoor
open Go Go.RowKit
variable{p:Prop}
variable {P:Program} {ops:Array Oper} {Q:Exit→Act→World→Prop} {md:Region.Mode} {S:World→Prop}
def uf(ops:Array Oper):Bool:=ops.all λo=>match o.op with
 | .defer _=>false
 |_=>true
theorem Jw(a:uf ops=true){c:Nat}{o:Oper}(d:ops[c]? =some o):∀b,o.op≠ .defer b:=λb e=>by
 unfold uf at a
 rw[Array.all_eq_true] at a
 obtain⟨f,g⟩:=Array.getElem?_eq_some_iff.1 d
 have:=a c f
 rw[g,e] at this
 cases this
theorem JA{n l:Nat}{c:String}{b:Array Value}{d:World}{a:Value->World->Prop}(h:Rows P c b d a):RowsIn (Fence.wide.inRound l) n P c b d a:=λf g _=>by
 obtain⟨k,m,i,j⟩:=h f g
 exact⟨k,m,i,stepsIn_wide.2 j⟩
theorem Jy{n l:Nat}{o:Oper}{b:Act}{c:World}{h i:Act->World->Prop}(m:∀k,o.op≠ .defer k)(d:∀b c,h b c->i b c)(a:o.wp P b c h Q):o.wpIn (Fence.wide.inRound l) n P b c i Q:=by
 unfold Oper.wp at a;unfold Oper.wpIn;refine⟨λ_ _=>trivial,?_⟩;rw[Fence.inRound_round,Oper.semAt_some l _ _ m];generalize(execOp b.eval o).run P c=p at*;cases p with
 |ok g r=>
  cases g<;>simp only[Oper.upon,Oper.uponIn] at a⊢
  case value q=>exact d _ _ a
  case skip=>exact d _ _ a
  case defer t=>exact d _ _ a
  case enter u j=>exact⟨λe=>(by cases e),CallsIn.inRound l (callsIn_wide.2 (a.mono λe s f=>by cases e<;>first|exact d _ _ f|exact f))⟩
  case row row j=>exact⟨λe=>(by cases e),(JA a).mono λq s f=>d _ _ f⟩
 |halt g r=>cases g<;>simp only[Oper.upon,Oper.uponIn] at a⊢;exact a
theorem ue{n l:Nat}(f:uf ops=true)(g:∀c b,¬Q .outgrown c b):∀(fuel:Nat) (j:Array Bool) (c:Act) (b:World),wpAny P md ops Q fuel j c b->wpAnyIn (Fence.wide.inRound l) n P md ops Q fuel j c b
 |0,_,_,_,d=>d
 |fuel+1,j,c,b,d=>⟨d.1,λm p=>by
  have a:=d.2 m p
  unfold wpOp at a
  unfold wpOpIn
  cases i:ops[m]? with
  |none=>rw[i] at a;exact ue f g fuel _ c b a
  |some q=>
   rw[i] at a
   dsimp only at a⊢
   split
   .rename_i hw
    rw[if_pos hw] at a
    rcases a with a|⟨_,h,k,a⟩
    .exact Jy (Jw f i) (λh k o=>ue f g fuel _ h k o) a
    exact(g h k a).elim
   rename_i hw
   rw[if_neg hw] at a
   exact⟨λ_ _=>trivial,ue f g fuel _ _ b a⟩⟩
theorem Jz{n l i:Nat}{b:Act}{a:World}(f:uf ops=true)(g:∀b a,¬Q .outgrown b a)(h:P.follows .mixedOrders=true)(d:S a.drew)(c:S a.drew->wpAnyH P .any ops Q S ops.size (Array.replicate ops.size false) b a.drew):(Code.region i ops true).wpIn (Fence.wide.inRound l) n P Q b a:=
 wpIn_region_any h (ue f g _ _ _ _ (wpAny_of_held _ _ _ _ (c d)))
