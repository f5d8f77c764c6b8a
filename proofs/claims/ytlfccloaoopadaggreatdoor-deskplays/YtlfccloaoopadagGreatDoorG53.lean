import Derived.HandedShaped
import Derived.LaidMore
import Derived.Stop.Joined
import Derived.Deep.Slices
import Derived.Lib.SmallJoins
import Derived.Test.YtlfccloaoopadagGreatDoorG10
set_option maxRecDepth 100000
set_option maxHeartbeats 0
open Go.Proofs.Tryz
open Go.DataW (TrodAll)
namespace Go.Proofs.YtlfccloaoopadagGreatDoor
open Go.ChangeShapes Go.WideShapes Go.ChangeAt Go.RowKit
variable{p:Prop}
theorem AE{j:Type}{l:TypeId×Value->j}{c:Program}(p:laidOutB c=true){d k:World}(o:Below d d k):
 ∀(f:List TypeId) (b:List Value) (a:List (DataW j)) (g:List MemPlace),(∀t∈f,c.readableRec t=true/\t<c.types.size)-> TrodAll l c d 0 (λ_=>true) true f b a g->TrodAll l c k 0 (λs=>decide (s<d.heap.size)) true f b a g
 |[],b,a,g,_,m=>by
  cases b<;>cases a<;>simp_all[TrodAll]
 |t::f,b,a,g,h,m=>by
  obtain⟨A,b,z,a,q,r,rfl,rfl,rfl,n,y⟩:=trodAll_cons m
  have w:∀i∈q,i.block<d.heap.size:=by obtain⟨x,u⟩:=n;exact DataW.trod_lt x _ _ _ u
  exact⟨q,r,Below.trod p (h t (by simp)).1 (h t (by simp)).2 n o w,AE p o f b a r (λi v=>h i (by simp[v])) y,rfl⟩
theorem AF{f:Type}{j:TypeId×Value->f}{h}{i:World}:∀(c:List TypeId) (b:List Value) (a:List (DataW f)) (d:List MemPlace),TrodAll j h i 0 (λ_=>true) true c b a d->a.length=c.length
 |[],b,a,d,g=>by
  cases b<;>cases a<;>simp_all[TrodAll]
 |t::c,b,a,d,g=>by
  obtain⟨p,b,m,a,o,k,rfl,rfl,rfl,n,l⟩:=trodAll_cons g
  simp[AF c b a k l]
theorem Hw{C:Checked}{r:Os}{n:FuncId}{c:Func}{s:ChangeSpec}{t:TypeId}{k:Type}{h:TypeId×Value->k}{l:List (String×DataW Unit)}(Y:ownKnob C.prog.godebug=none)(aa:r.Started)(X:C.prog.inits.idxOf? n=none)(H:C.prog.funcs[n]? =some c)
 (ac:∃(b:World) (d:Tape) (a:Input),b.os=r/\(b.forCall d a).Shaped C.prog/\a.vars=[]/\Input.okWide C.prog (b.forCall d a) .any b.heap.size n a/\
  ((s.pre h C.prog c [] false (b.forCall d a).memory a.args/\laidMetH C.prog l (b.forCall d a).memory)/\sizedMet h C.prog c (OpenSpec.ofChange s) false (b.forCall d a).memory a.args)/\({}:Assume).holds C.prog (lone (Frame.enter C.prog n a.args .normal) [] (b.forCall d a)))
 (J:laidOutB C.prog=true) (O:(c.params.toList.all λt=>C.prog.readableRec t&&decide (t<C.prog.types.size))=true)
 (P:c.resultTypes=#[t]) (G:C.prog.underlying t=some .bool) (y:s.vars=[])
 (R:∀f:List (DataW k),f.length=c.params.toList.length->s.fn k (f++[])={results:=[.lit (.bool true)],args:=f})
 (ab:∀(g:World) (D:Nat) (args:Array Value) (f:List (DataW k)) (Z:List MemPlace),
  (∀(A:Nat) t i,c.params[A]? =some t->args[A]? =some i->Value.okWide C.prog g .any D t i)->
  DataW.TrodAll h C.prog g 0 (λ_=>true) true c.params.toList args.toList f Z->
  (DataW.weightsEach C.prog (c.params.toList++s.plain.varTypes C.prog) (f++[])).all (· <=reachBytes)=true->g.ShapedOpen C.prog->laidMetH C.prog l g->
  Calls C.prog n args g λe j=>e=.returned (.bool true)/\Below g g j):
 ReturnsInHanded {} C r n .any (λb args=>(s.pre h C.prog c [] false b args/\laidMetH C.prog l b)/\sizedMet h C.prog c (OpenSpec.ofChange s) false b args) (s.post h C.prog c false true false false):=by
 refine returnsInHanded_of_calls Y aa X ac ?_
 intro b d a _ Q _ K M ag
 obtain⟨_,_,_,v,I,_,_,_,_,U⟩:=K
 have e:=Option.some.inj (I.symm.trans H)
 subst e
 obtain⟨⟨⟨f,ae,ad,z,af⟩,V⟩,W⟩:=M
 have x:=DataW.Whole.of_heap (w':=b.forCall d a) (by rfl) z
 have S:=W.weights z
 have F:laidMetH C.prog l (b.forCall d a):=V.of_heap (by rfl)
 suffices m:Calls C.prog n a.args (b.forCall d a) λe j=>∃i,e=.returned i/\s.post h C.prog v false true false false (b.forCall d a) a.args i j from m.mono λe j ⟨i,p,L⟩=>by
  subst p
  exact ChangeSpec.post_blind L
 generalize b.forCall d a=g at*
 have E:=x
 obtain⟨B,ah,o,w,rfl,_,_⟩:=x
 rw[y] at w
 obtain⟨rfl,rfl⟩:=trodVars_none w
 refine(ab g b a.args f B U o S Q F).mono λe j ⟨p,u⟩=>?_
 subst p
 have q:=R f (AF _ _ _ _ o)
 have N:∀t∈v.params.toList,C.prog.readableRec t=true/\t<C.prog.types.size:=by
  intro t T
  have:=List.all_eq_true.1 O t T
  simpa using this
 refine⟨_,rfl,f,[],_,[],B,[],E,?_,?_,?_,u.frame _,λm=>by cases m⟩
 .rw[q,P]
  exact trodAll_mk1 (shut_bool G _)
 .rw[q]
  exact AE J u _ _ _ _ N o
 rw[q,y]
 rfl
open Go.Deep Go.Joins
section
variable {H:Type} {enc:TypeId×Value→H}
def IX(l:List Nat):Prop:=∀n∈l,n<=140737488351232
theorem IY{l:List Nat}(a:(l.all (· <=reachBytes))=true):IX l:=by
 intro c b;have:=List.all_eq_true.1 a c b;exact of_decide_eq_true this
variable {w:World}
theorem Bk{a:Program}{c:TypeId}{d:Value}{b:DataW H}{p:List MemPlace}(f:DataW.Trod enc a w 0 (λ_=>true) true c d b p):∃n,DataW.trod enc a w 0 (λ_=>true) true n c d.cells.toList=some (b,p):=f
end
section
variable {H:Type} {enc:TypeId×Value→H} {w:World}
theorem Bj{b:Program}{j:Reach}{f:Nat}{c:TypeId}{a d:Value}(h:b.underlying c=some .string)(i:Value.okWide b w j f c a)(g:a.cells.toList=[d]):a=d:=by
 obtain⟨k,rfl⟩:=okWide_string h i;simpa[Value.cells] using g
end
