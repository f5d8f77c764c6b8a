import Derived.Maps.OwnSet
import Derived.Test.YtlfccloaoopadagGreatDoorG22
open Go.Proofs.Tryz
set_option maxRecDepth 100000
set_option maxHeartbeats 0
open List (map_append map_cons map_nil sum_append sum_cons sum_nil)
namespace Go.Proofs.YtlfccloaoopadagGreatDoor
open Go.ChangeShapes Go.WideShapes Go.ChangeAt Go.RowKit Go.Maps
variable{p:Prop}
def iK(ts:List Tm)(v:Int):Nat:=ts.countP (lM v)
def eN(ats:List Atm)(v:Int):Nat:=(ats.map λa=>iK a.args v).sum
def ju(ats:List Atm):Nat:=(ats.map λa=>a.args.length).sum
def jP(D:DataW Unit)(f:Int->Nat):Prop:=IsMap D/\∀v:Int,0<=v->v<=2->D.atKey (.int .i64 v) (.lit (.int .i64 0))=.lit (.int .i64 (f v:Nat))
theorem Cu(a b):iK a b<=a.length:=List.countP_le_length
theorem Kr{b:List Tm}{a:Nat}(d:a<b.length)(c:Int):iK (b.take (a+1)) c=iK (b.take a) c+if lM c b[a] then 1 else 0:=by
 rw[List.take_succ_eq_append_getElem d];simp only[iK,List.countP_append,List.countP_cons,List.countP_nil,Nat.zero_add]
theorem Ks{a:List Atm}{b:Nat}(d:b<a.length)(c:Int):eN (a.take (b+1)) c=eN (a.take b) c+iK a[b].args c:=by
 rw[List.take_succ_eq_append_getElem d];simp only[eN,map_append,map_cons,map_nil,sum_append,sum_cons,sum_nil,Nat.add_zero]
theorem Kw{a:List Atm}{b:Nat}(c:b<a.length):ju (a.take (b+1))=ju (a.take b)+a[b].args.length:=by
 rw[List.take_succ_eq_append_getElem c];simp only[ju,map_append,map_cons,map_nil,sum_append,sum_cons,sum_nil,Nat.add_zero]
theorem Cv:∀(c:List Atm) (b:Int),eN c b<=ju c
 |[],b=>Nat.le_refl _
 |a::d,b=>by
  have f:=Cv d b
  have g:=Cu a.args b
  simp only[eN,ju,map_cons,sum_cons] at*
  omega
theorem CA:∀(b:List Atm),(∀a∈b,a.args.length<=140737488355328)->ju b<=b.length*140737488355328
 |[],_=>by simp[ju]
 |a::f,c=>by
  have h:=CA f (λg d=>c g (by simp[d]))
  have i:=c a Q1
  simp only[ju,map_cons,sum_cons,List.length_cons] at*
  omega
theorem CB(a):∀b,ju (a.take b)<=ju a:=by
 intro b;have:=congrArg ju (List.take_append_drop b a);simp only[ju,map_append,sum_append] at*;omega
theorem Kn:jP (.map []) (λa=>eN (([]:List Atm)) a):=⟨isMap_empty,λ_ _ _=>rfl⟩
theorem xA{b:DataW Unit}{f c:Int->Nat}(d:jP b f)(e:∀a,f a=c a):jP b c:=⟨d.1,λa g h=>by rw[d.2 a g h,e a]⟩
theorem TY(h:p:=by simp[WideAt.IsKeyLit]):p:=h
theorem Kq{d:DataW Unit}{f h:Int->Nat}{n b}(c:jP d f)(g:d.atKey (.int .i64 n) (.lit (.int .i64 0))=.lit (.int .i64 b))(j:0<=n)(k:n<=2)(s:f n<=1000000000000000)(i:∀a,h a=f a+if n=a then 1 else 0):jP (d.put (.int .i64 n) (.lit (.int .i64 (wrap64 (b+1))))) h:=by
 have l:b=(f n:Int):=by
  rw[c.2 n j k] at g;simp at g;exact g.symm
 have o:wrap64 (b+1)=((f n+1:Nat):Int):=by rw[l];unfold wrap64;omega
 obtain⟨r,m⟩:=c.1;refine⟨⟨_,by rw[m];rfl⟩,λa p q=>?_⟩;by_cases e:n=a
 .subst e;rw[atKey_put_same c.1 TY,o,i,if_pos rfl]
 rw[atKey_put_other RD,c.2 a p q,i,if_neg e,Nat.add_zero]
theorem p_:Keyed prog 3:=int_keyed underlying3
theorem qf(a:World):(zeroValue 3).run prog a=.ok (.int .i64 0) a:=by kernel_rfl
theorem qd{d k}{f:Value->Option (DataW Unit×List MemPlace)}{b h:World}{a n}{c:DataW Unit}(g:b.ownsMap d k f a n c)(o:Below b b h):h.ownsMap d k f a n c:=by
 have p:=g.lt;obtain⟨j,i,l,m⟩:=g;exact⟨j,i,by rw[o.block a p];exact l,m⟩
abbrev jt(w:World)(b n:Nat)(D:DataW Unit):Prop:=w.ownsMap prog 3 (plainElem prog 3) b n D
theorem rK{n}(a:0<=n)(b:n<=2):(Lit.int .i64 n).wf=true:=by
 rcases(show n=0\/n=1\/n=2 by omega) with rfl|rfl|rfl<;>rfl
theorem TZ(h:p:=by unfold maxLen;omega):p:=h
theorem CN(d:World)(g a)(ab:tf d g a)(ac:a.length<=4)(D:∀r∈a,r.args.length<=140737488355328/\r.args.all db=true):Calls prog 205 #[g] d λe V=>e=.returned (.map (some d.heap.size))/\Below d d V/\∃n k,jt V d n k/\jP k (eN a):=by
 have aH:=@run_makeMap prog;obtain⟨r,ay,rfl,aF,u⟩:=ab;have H:=hid_ u;have Z:=hid_ D;have aE:ju a<=562949953421312:=by have:=CA a (λr ad=>(D r ad).1);omega
 clear u D;go_enter func205,ntmps205;go_wp2_with fail;go_loopw [11] (λh wr=>∃b:Nat,b<=a.length/\h=.int .i64 b/\Below d d wr/\∃n k,n<=ju (a.take b)/\jt wr d.heap.size n k/\jP k (eN (a.take b))) (λh _=>a.length-(intOf h).toNat)
 case atStart=>exact⟨0,Nat.zero_le _,rfl,(Below.refl _ _).alloc (Nat.le_refl _) _,0,_,Nat.zero_le _,World.ownsMap_made _ _ _ _,Kn⟩
 obtain⟨b,aB,rfl,s,n,k,aj,x,w⟩:=hrel;by_cases hlt:b<a.length
 .obtain⟨av,aM,rfl,J,u⟩:=H.out.resolve_left RH;obtain⟨P,U,Q,ap⟩:=u b a[b] Ru;have an:=(bF s J).trans P;have ao:=(bF s J).trans Q;obtain⟨au,aQ,rfl,aK,R⟩:=ap;have F:=Z a[b] (List.getElem_mem hlt);have Y:=hid_ (Ks hlt);have G:=hid_ (Kw hlt);have ah:=CB a (b+1);rw[G.out] at ah;clear u;have ak:=hid_ F.2;clear F;generalize a[b]=at_ at*;obtain⟨aO,f⟩:=at_;have A:Hid (f=[]\/∃B T,au=some ⟨B,T,none⟩/\B<d.heap.size/\∀h X,f[h]? =some X->oM d B (T+h*2) X):=R;have z:=hid_ x;have v:=hid_ w;clear R x w P Q;go_wp2_with fail;clear an ao;go_loopw [18] (λh W=>∃c:Nat,c<=f.length/\h=.int .i64 c/\Below d d W/\∃i p,i<=ju (a.take b)+c/\jt W d.heap.size i p/\jP p (λg=>eN (a.take b) g+iK (f.take c) g)) (λh _=>f.length-(intOf h).toNat)
  case atStart=>exact⟨0,Nat.zero_le _,rfl,s.alloc s.size _,n,k,aj,z.out.alloc _,xA v (λg=>by simp[iK])⟩
  obtain⟨c,aC,rfl,l,i,p,aG,o,m⟩:=hrel;by_cases t:c<f.length
  .obtain⟨aw,aN,rfl,K,S⟩:=A.out.resolve_left (by intro e;rw[e] at t;simp at t);obtain⟨N,O⟩:=S c f[c] (by simp[t]);have aI:=(bF l K).trans N;have aJ:=(bF l K).trans O;have M:=List.all_eq_true.1 ak _ (List.getElem_mem t);have E:=hid_ (Kr t);clear S N O A;generalize f[c]=ar at*;obtain⟨U,j⟩:=ar;cases U
   .have q:=hid_ m;have y:=hid_ o;clear m o;go_wp2_with fail;go_roundw
    case rel=>exact⟨c+1,Q0,Rv,l.alloc l.size _,i,p,Q0,y.out.alloc _,xA q (λg=>by rw[E g];simp[lM])⟩
    exact adT
   have aq:0<=j/\j<=2:=by
    have:bQ j 0 2=true:=M;simpa[bQ] using this
   obtain⟨I,C⟩:=aq;have L:keyOf prog 3 (.int .i64 j)=some (.int .i64 j):=keyOf_int_mk underlying3 (rK I C);have q:=hid_ m;have ai:i<maxLen:=TZ
   have af:Hid (eN (a.take b) j+iK (f.take c) j<=1000000000000000):=by
    show _<=_;have az:=Cv (a.take b) j;have C:=Cu (f.take c) j;have aA:(f.take c).length<=c:=List.length_take_le _ _;have ac:=CB a b;omega
   clear m M
   go_wp2_with(first
    |(at_lookup;refine wpList_lookup_own_int _ rfl _ _ 232 rfl 3 3 .i64 p_ underlying232 underlying3 (qf _) d i _ rfl (o.alloc _) _ _ rfl L ?_;intro ax ae aL)
    |(at_mapUpdate;refine wpList_mapUpdate_own _ rfl _ _ _ 232 rfl 3 3 p_ underlying232 _ d i _ rfl (o.alloc _) ai _ _ _ rfl rfl L _ [] (plainElem_int underlying3 (wrap64_wf _)) ?_;intro aR al ag))
   go_roundw
   case rel=>exact⟨c+1,Q0,Rv,(l.alloc l.size _).grown ag (by have:=l.size;simp;omega) (λaP am=>by cases am;exact Nat.le_refl _),i+1,_,Q0,al,Kq q ae I C af (λg=>by rw[E g];simp[lM,Nat.add_assoc])⟩
   simp[intOf];omega
  have aD:c=f.length:=Q0;have q:=hid_ m;have y:=hid_ o;clear m o A;go_wp2_with fail;go_roundw
  case rel=>exact⟨b+1,Q0,Rv,l,i,p,by rw[G.out];omega,y.out,xA q (λg=>by rw[Y g,show f.take c=f from List.take_of_length_le Q0])⟩
  exact adT
 have z:=hid_ x;have v:=hid_ w;have aa:Hid (a.take b=a):=List.take_of_length_le Q0;clear x w H;go_wp2_with fail;go_ret;exact⟨rfl,s,n,k,z.out,by rw[aa.out] at v;exact v.out⟩
