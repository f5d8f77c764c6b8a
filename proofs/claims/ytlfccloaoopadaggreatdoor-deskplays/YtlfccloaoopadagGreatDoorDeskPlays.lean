/-
  What is proved: for every text of a program and every script: Play answers just what the document says, errors too. Conditions: none of the arguments; the package-level variables of the library that are listed start as the program's text lays them (the card ties them).
-/
import Derived.Test.YtlfccloaoopadagGreatDoorCards
import Derived.Test.YtlfccloaoopadagGreatDoorTie
import Derived.SevenTiedAt
import Derived.Lib.LaidTab
import Derived.Shelf.Vars
import Derived.Lay
import Derived.Test.YtlfccloaoopadagGreatDoorG50
import Derived.Test.YtlfccloaoopadagGreatDoorG53
open Go.Proofs.Tryz
set_option maxRecDepth 100000
set_option maxHeartbeats 0
open Option.some (inj)
namespace Go.Proofs.YtlfccloaoopadagGreatDoor
open Go.ChangeShapes Go.WideShapes Go.ChangeAt Go.RowKit
variable{p:Prop}
theorem Od{c:Program}{f:World}{n:String}{d:DataW Unit}:∀(l:List (String×DataW Unit)) (b:List MemPlace),DataW.LaidVars c f l b->(n,d)∈l->∃t,DataW.LaidVars c f [(n,d)] t:=by
 intro l;induction l with
 |nil=>intro b _ a;cases a
 |cons v y ih=>
  intro b a q;obtain⟨x,w⟩:=v;obtain⟨i,u,g,h,r,s,j,k,m,o,p,_⟩:=a;rcases List.mem_cons.1 q with e|e
  .cases e
   exact⟨_,i,u,g,h,r,[],j,k,m,o,rfl,rfl⟩
  exact ih s p e
theorem Nl{w:World}(h:laidMetH prog Rows.deskPlaysRow.laid w):Lib.TabIs prog w "internal/strconv.uint64pow10" .u64 Lib.pow10Tab:=by
 rw[MakeChecks.laidMetH_plain _ _ _ QX] at h;obtain⟨ps,h1,_⟩:=h;have h2:("internal/strconv.uint64pow10",Lib.tabData .u64 Lib.pow10Tab)∈Rows.deskPlaysRow.laid:=List.mem_of_getElem? (i:=2) SS;obtain⟨_,g,t,cs,fuel,p,q,hg,ht,hv,hd,_,_⟩:=Od _ ps h1 h2;unfold Lib.TabIs;obtain rfl:=inj ((show prog.globalNamed "internal/strconv.uint64pow10" =some 5 by kernel_rfl).symm.trans hg);obtain rfl:=inj ((show(prog.globals[5]?).map (·.type)=some 307 by kernel_rfl).symm.trans ht);rw[hv,<-Lib.cells_of_tab (n:=20) (e:=276) QX QX QX QX hd]
theorem Nk{a:World}(b:a.ShapedOpen prog):∃c,a.cell? ⟨0,0,none⟩=some (.int .i64 c):=
 cell_of_shapedOpen_int (t:=3) (zero:=#[.int .i64 0]) b QZ QX rfl QX QX QX
theorem Ni(c:Os)(M:c.Started)(q:Type)(b:TypeId×Value->q):ReturnsInHanded {} checked c 3 .any (λd a=>(Rows.deskPlaysSpec.pre b prog f3 [] false d a/\laidMetH prog Rows.deskPlaysRow.laid d)/\sizedMet b prog f3 (OpenSpec.ofChange Rows.deskPlaysSpec) false d a) (Rows.deskPlaysSpec.post b prog f3 false true false false):=by
 refine Hw (C:=checked) (t:=4) QX M QX func3 (ChangeSpec.witness_shaped (enc:=b) (C:=checked) (os:=c) (X:=λd _=>laidMetH prog Rows.deskPlaysRow.laid d) false (World.laidAll prog c Rows.deskPlaysRow.laid) #[.string ⟨#[]⟩,.string ⟨#[]⟩] 8 (World.laidAll_os _ _ _) (World.shaped_of_ZipB QX QX) QX QX QX (by rw[MakeChecks.laidMetH_plain _ _ _ QX];exact laidMet_laidAll _ QX QX)) QX QX QX underlying4 rfl ?_ ?_
 .intro f j;rw[show f3.params.toList.length=2 by kernel_rfl] at j;match f,j with
  |[s,u],_=>rfl
 intro g r a f H G A F E D;have h:∀(n:Nat) t v,f3.params[n]? =some t->a[n]? =some v->Value.okWide prog g .any r t v:=G;have i:DataW.TrodAll b prog g 0 (λ_=>true) true f3.params.toList a.toList f H:=A;have m:(DataW.weightsEach prog (f3.params.toList++[]) (f++[])).all (· <=reachBytes)=true:=F;rw[params3] at i h m;obtain⟨o,Z,s,P,U,W,R,rfl,rfl,y,I⟩:=trodAll_cons i;obtain⟨p,aa,u,Q,V,Y,rfl,rfl,rfl,z,J⟩:=trodAll_cons I;obtain⟨rfl,rfl,rfl⟩:=trodAll_nil J;obtain rfl:a=#[o,p]:=by cases a;simp_all
 have B:=IY m;simp only[List.append_nil,DataW.weightsEach] at B;obtain⟨S,N⟩:=Bk y;obtain⟨T,O⟩:=Bk z;obtain⟨K,w,_,k⟩:=DataW.trod_string underlying9 N;obtain rfl:=Bj underlying9 (h 0 9 o rfl rfl) w;unfold maxLen at k;obtain⟨L,x,_,l⟩:=DataW.trod_string underlying9 O;obtain rfl:=Bj underlying9 (h 1 9 p rfl rfl) x;unfold maxLen at l;exact Of g K L k l ⟨Nk E,Nl D⟩
theorem QV:Rows.DeskPlaysSaid:=
 OpenClaim.holds_of_wide 3 f3 rfl rfl rfl rfl rfl rfl rfl ⟨rfl,rfl,rfl,rfl,rfl⟩ rfl rfl rfl rfl rfl QX func3 QX (of_decide_eq_true QX) (by unfold Func.isWrapper;first|(rw[if_pos QZ];kernel_rfl)|(rw[if_neg QZ];exact⟨rfl,rfl⟩)) (λc d a b _=>Ni c d a b)
theorem QU(f:FuncId)(fn:Func)(hf:Tryz.pinned.checked.prog.funcNamed "treillage/treillagelaw.DeskPlays" =some f)(hfn:Tryz.pinned.checked.prog.funcs[f]? =some fn):true=Tryz.pinned.checked.prog.looks []/\∀(j:Nat) t,fn.params[j]? =some t->Tryz.pinned.checked.prog.wantsStandIn t=false:=by
 obtain rfl:f=3:=inj ((show prog.funcNamed "treillage/treillagelaw.DeskPlays" =some 3 by kernel_rfl).symm.trans hf)|>.symm;obtain rfl:fn=f3:=(inj (func3.symm.trans hfn)).symm;refine⟨QX,λj t ht=>?_⟩;rw[params3] at ht;have hm:t∈[9,9]:=by simpa using Array.mem_of_getElem? ht
 have hall:([9,9].all λu=> !prog.wantsStandIn u)=true:=QX;exact(show prog.wantsStandIn t=false by simpa using List.all_eq_true.1 hall t hm)
theorem deskPlays_proved:Rows.DeskPlaysCardSaid:=
 Claim7.holds_tied_plain_at .later [] _ _ _ _ QV (λ_ h=>Rm) QX (λ_ h=>Rm) deskPlays_row_tie rfl ⟨rfl,rfl⟩ QX rfl QU QX
