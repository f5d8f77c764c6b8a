import Derived.OwnWalk
import Derived.Maps.Own
import Derived.Maps.OwnOps
import Derived.Maps.Views
import Derived.Test.YtlfccloaoopadagGreatDoorG8
open Go.Proofs.Tryz
set_option maxRecDepth 100000
set_option maxHeartbeats 0
namespace Go.Proofs.YtlfccloaoopadagGreatDoor
open Go.ChangeShapes Go.WideShapes Go.ChangeAt Go.RowKit
variable{p:Prop}
theorem Cz:(prog.info? 55).map (λa=>(a.zero,a.size,a.bytes))=some (some (.agg #[.int .i64 0,.slice none 0 0]),2,32):=by kernel_rfl
def dZ(ls:List Ltr)(not:Bool):List Atm:=(ls.filter λl=>l.neg==not).map Ltr.atom
theorem KE{a:List Ltr}{b:Bool}{k:Nat}(c:k<a.length)(d:(a[k].neg==b)=true):dZ (a.take (k+1)) b=dZ (a.take k) b++[a[k].atom]:=by
 rw[List.take_succ_eq_append_getElem c];simp only[dZ,List.filter_append,List.filter_cons,d,if_true,List.filter_nil,List.map_append,List.map_cons,List.map_nil]
theorem KD{a:List Ltr}{b:Bool}{k:Nat}(c:k<a.length)(d:(a[k].neg==b)=false):dZ (a.take (k+1)) b=dZ (a.take k) b:=by
 rw[List.take_succ_eq_append_getElem c];simp only[dZ,List.filter_append,List.filter_cons,d,Bool.false_eq_true,if_false,List.filter_nil,List.append_nil]
def p9(w wr:World)(base:Nat)(v:Value)(ats:List Atm):Prop:=
 ∃l:List (Atm×Value),l.map Prod.fst=ats/\(∀x∈l,cr w x.2 x.1.args/\x.2.oneCell'=true)/\wr.ownsRow base 55 2 v l (j6 l)
theorem Cr(k g:World)(z d f)(R:dC k z d)(S:Below k k g)(aj:d.length<=3):Calls prog 206 #[z,.bool f] g λe I=>∃t,e=.returned t/\p9 k I g t (dZ d f)/\Below g g I:=by
 obtain⟨Z,U,W,X,Y⟩:=info_parts Cz;obtain⟨ah,ai,rfl,am,hx⟩:=R;have v:=hid_ hx;clear hx;go_enter func206,ntmps206;go_wp2_with fail;go_loopw [5,10] (λt y wr=>∃c:Nat,c<=d.length/\y=.int .i64 c/\p9 k wr g.heap.size t (dZ (d.take c) f)/\Below g g wr) (λ_ y _=>d.length-(intOf y).toNat)
 case atStart=>exact⟨0,Nat.zero_le _,rfl,⟨[],rfl,Q1,World.ownsRow_nil _ _ _ _⟩,Below.refl _ _⟩
 obtain⟨c,ak,rfl,l,h⟩:=hrel;have A:=bt_ S h;by_cases hlt:c<d.length
 .obtain⟨Q,ap,rfl,B,hx⟩:=v.out.resolve_left RH;obtain⟨_,_,ac,ad,H,x⟩:=(hx c d[c] Ru).a;obtain⟨an,ao,p,q,G,_⟩:=(oL.b k wr Q _ _ A B (hx c d[c] Ru)).a
  have F:Value.slice ac d[c].atom.args.length ad=Value.slice p d[c].atom.args.length q:=by
   rw[bF A B,H] at G;exact Option.some.inj G
  rw[F] at x;have O:=hid_ x;have w:Hid ((d[c].neg==f)=true->dZ (d.take (c+1)) f=dZ (d.take c) f++[d[c].atom]):=KE hlt;have u:Hid ((d[c].neg==f)=false->dZ (d.take (c+1)) f=dZ (d.take c) f):=KD hlt;clear hx v H x F;generalize d[c]=i at*;obtain⟨ab,o,j⟩:=i;cases D:(ab==f)
  .have M:=hid_ (u D);have r:=hid_ l;clear w u l;go_wp2_with fail;go_roundw
   case rel=>
    obtain⟨i,m,s,n⟩:=r.out;exact⟨c+1,Q0,Rv,by rw[M.out];exact⟨i,m,s,n.alloc _⟩,h.alloc h.size _⟩
   exact adT
  obtain⟨i,m,s,n⟩:=l;have P:Hid (dZ (d.take (c+1)) f=dZ (d.take c) f++[⟨o,j⟩]):=w D;have K:=hid_ m;have L:=hid_ s
  have al:i.length<=c:=by
   have:=congrArg List.length m;simp[dZ] at this;rw[this];exact Nat.le_trans (List.length_filter_le _ _) RD
  clear w u m s;go_wp2_with(at_builtin;refine wpList_append_own _ rfl _ _ 259 rfl g.heap.size 55 Z (.agg #[.int .i64 0,.slice none 0 0]) 2 32 underlying259 U W X Y rfl (by decide) _ _ _ rfl ((n.alloc _).alloc _) ⟨wr.heap.size+1,0,none⟩ 1 1 [.int .i64 o,.slice p j q] rfl rfl ?c1 ?c2 ?c3 ?c4 ?c5 ?_)
  case c2=>exact⟨rfl,rfl⟩
  case c3=>unfold maxLen;omega
  case c4=>omega
  case c5=>have:=h.size;simp;omega
  intro ae af E C _;have T:=((h.alloc h.size _).alloc (by have:=h.size;simp;omega) _).grown C (by have:=h.size;simp;omega) (λaa V=>(n.lt aa V).1)
  have N:Hid (af.ownsRow g.heap.size 55 2 ae (i++[((⟨o,j⟩:Atm),Value.slice p j q)]).length (j6 (i++[((⟨o,j⟩:Atm),Value.slice p j q)]))):=by
   show World.ownsRow _ _ _ _ _ _ _;rw[zj,List.length_append];exact E
  clear E C n;go_wp2_with fail;go_roundw
  case rel=>
   refine⟨c+1,Q0,Rv,⟨i++[((⟨o,j⟩:Atm),Value.slice p j q)],?_,?_,N.out⟩,T⟩
   .rw[P.out,List.map_append,K.out];rfl
   intro ag hx;rcases List.mem_append.1 hx with hx|hx
   .exact L ag hx
   obtain rfl:=List.mem_singleton.1 hx;exact⟨O.out,rfl⟩
  exact adT
 have J:Hid (d.take c=d):=List.take_of_length_le Q0;have r:=hid_ l;clear l v;go_wp2_with fail;go_ret;exact⟨_,rfl,by rw[J.out] at r;exact r.out,h⟩
