import Derived.Defers
import Derived.Recover
import Derived.Laws.Pointers
import Derived.Test.YtlfccloaoopadagGreatDoorG19
open Go.Proofs.Tryz
set_option maxRecDepth 100000
set_option maxHeartbeats 0
namespace Go.Proofs.YtlfccloaoopadagGreatDoor
open Go.ChangeShapes Go.WideShapes Go.ChangeAt Go.RowKit
variable{p:Prop}
theorem M4(p:Addr)(k:Bool)(d:TypeId)(c:Value)(b:List PanicEntry)(a:World)(f:a.cell? p=some (.bool k))(h:a.frozen? p=false):
 CallsD prog 61 #[.pointer (some p)] (.panicking ({v:=.iface d c,recovered:=false}::b)) a λe i j=>
  e=.returned (.tuple #[])/\i=.panicking ({v:=.iface d c,recovered:=true}::b)/\j=a.setCell p (.bool false):=by
 refine callsD_of_wpS func61 rfl λm l g=>?_
 apply wpS_seq
 apply wpS_region
 simp[wpOpsS,go_sem,recoverD,g,ntmps61,Exit.thenS]
 refine wpS_cond (t:=true) (by simp[Act.eval,Array.replicate]) ?_
 simp only[if_true]
 apply wpS_region
 simp[wpOpsS,go_sem,f,h,bodyPostS,results,results61]
theorem MZ(p)(a:World):CallsD prog 61 #[.pointer (some p)] .returning a λe d f=>e=.returned (.tuple #[])/\d=.returning/\f=a:=by
 refine callsD_of_wpS func61 rfl λb g c=>?_;apply wpS_seq;apply wpS_region;simp[wpOpsS,go_sem,recoverD,c,ntmps61,Exit.thenS];refine wpS_cond (t:=false) (by simp[Act.eval,Array.replicate]) ?_;simp only[Bool.false_eq_true,if_false];refine wpS_of_wp (wp_skip ?_);cases b
 simp_all[bodyPostS,results,results61]
def jZ(w:World)(T:ByteArray):World:=(w.alloc (.cells #[.bool false] 4)).alloc (.cells #[.string T] 106)
def Mu(w:World)(Φ:Option (List UInt8)->World->Prop)(e:Ending)(w':World):Prop:=
 ∃R,w'.heap[w.heap.size]? =some (.cells #[.bool false] 4 (0,0))/\Φ R w'/\match R with
  |none=>e=ow
  |some t=>e=.returned (.tuple #[])/\cu w' (w.heap.size+1) t
theorem yW(a:World)(o h d)(u:∀g a,(callFunc h g).run prog a=.ok (.enter h g) a)(s:Option (List UInt8)->World->Prop)(n:Calls prog h (#[.pointer (some ⟨a.heap.size+1,0,none⟩)]++d) (jZ a o) (Mu a s)):Calls prog 16 #[.string o,.func (.func h) #[] d] a λe x=>∃c b,s c b/\e=.returned (.bool (decide (c=some [])))/\x=b.setCell a (.bool (decide (c=some []))):=by
 have z:∀(p:Fn) (first d:Array Value) (a:World),(Instr.makeFunc p first d).run prog a=.ok (.func p first d) a:=λ_ _ _ _=>rfl;unfold jZ at n;go_enter_defers func16,ntmps16;go_wp2_with fail;refine n.mono ?_;clear n u;rintro e b ⟨c,k,i,j⟩;have m:b.cell? a=some (.bool false):=by simp[World.cell?,k]
 have v:b.frozen? a=false:=by simp[World.frozen?,k]
 cases c with
 |none=>
  simp only at j;unfold ow at j;subst j;have l:=hid_ i;clear i k;go_wp2_with fail;refine leaves_cons (f:=61) (args:=#[.pointer (some ⟨a,0,none⟩)]) Q1 Re ?_;refine(M4 ⟨a,0,none⟩ false 22 _ [] b m v).mono ?_;rintro e w y ⟨rfl,rfl,rfl⟩;simp[Leaves,settle,results,results16,go_sem,m];exact⟨none,b,l.out,Q1,Q1⟩
 |some r=>
  obtain⟨rfl,q⟩:=j;have l:=hid_ i;have t:=Et b (a.heap.size+1) r q;clear i k q;go_wp2_with(go_at_call 20;refine mq_ t ?_);refine leaves_cons (f:=61) (args:=#[.pointer (some ⟨a,0,none⟩)]) Q1 Re ?_;refine(MZ ⟨a,0,none⟩ _).mono ?_;rintro e w y ⟨rfl,rfl,rfl⟩;simp[Leaves,settle,results,results16,go_sem,m];exact⟨some r,_,l.out,Q1,Q1⟩
