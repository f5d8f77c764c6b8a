import Derived.Deep.RegionHeld3
namespace Go.Proofs.YtlfccloaoopadagGreatDoor
open Go
section
variable{P:Program}{ops:Array Oper}{Q:Exit→Act→World→Prop}{md:Region.Mode}{S:World→Prop}{fuel:Nat}{listed:Array Bool}{a:Act}{w:World}
theorem rd_(i:Nat){o:Oper}(ho:ops[i]? =some o)(h:∀K':Act→World→Prop,Shut (∀a w,S w→(S w→wpAnyH P md ops Q S fuel (listed.setIfInBounds i true) a w)→K' a w)→if Region.wanted o (yielded ops a.tmps)=true then Oper.wp P o a w K' Q else K' (a.put o.dst undef) w)(hr:Region.ready md ops listed=[i]:=by kernel_rfl):wpAnyH P md ops Q S (fuel+1) listed a w:=wpAnyH_ready hr (by simp) (AllReadyH.cons ho h AllReadyH.nil)
theorem tk_(i:Nat)(v:Value){o:Oper}(hi:ops[i]? =some o)(hy:∀w,S w→(execOp a.eval o).run P w=.ok (.value v) w)(h:wpAnyH P md ops Q S fuel (listed.setIfInBounds i true) (a.put o.dst v) w)(hs:Region.noSelect ops=true:=by kernel_rfl)(hf:Region.free md ops listed i=true:=by kernel_rfl)(hr:(Region.ready md ops listed).contains i=true:=by kernel_rfl)(hQ:∀c a w,Q (.panic c) (a.put o.dst v) w→Q (.panic c) a w:=by exact fun _ _ _ h=>h)(hg:Region.wanted o (yielded ops a.tmps)=true:=by rfl)(hS:S w:=by assumption):wpAnyH P md ops Q S (fuel+1) listed a w:=wpAnyH_take hi hs hf hr hQ (Or.inl ⟨hg,hy⟩) hS h
end
theorem sq_:(∀(a:Act) d v,a.put d v=match d with|some d=>{a with tmps:=a.tmps.setIfInBounds d v}|none=>a)∧(∀(l:List Value) i v,l.toArray.setIfInBounds i v=(l.set i v).toArray)∧(∀(x:Value) l v,(x::l).set 0 v=v::l)∧(∀(x:Value) l n v,(x::l).set (n+1) v=x::l.set n v):=⟨fun _ _ _=>rfl,fun _ _ _=>by simp,fun _ _ _=>rfl,fun _ _ _ _=>rfl⟩
