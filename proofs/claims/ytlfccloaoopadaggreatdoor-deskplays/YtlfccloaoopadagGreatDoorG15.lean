import Derived.Lib.ItoaNum
import Derived.Test.YtlfccloaoopadagGreatDoorG14
set_option maxRecDepth 100000
set_option maxHeartbeats 0
open Go.Lib (decDigits)
namespace Go.Proofs.YtlfccloaoopadagGreatDoor
variable{p:Prop}
theorem Nd{a k}(b:k<10)(c:0<a):decDigits (10*a+k)=decDigits a++[UInt8.ofNat (48+k)]:=by
 rw[decDigits,dif_neg Q0,show(10*a+k)/10=a by omega,show(10*a+k)%10=k by omega]
theorem Fd(c):∀(a:List UInt8) (n:Int),dV (a++[c]) n=10*dV a n+((c.toNat:Int)-48)
 |[],n=>rfl
 |b::a,n=>by rw[List.cons_append,dV,Fd c a,dV]
theorem yl{a}(b:ee a=true):48<=a.toNat/\a.toNat<=57:=by unfold ee at b;simpa using b
theorem Nc:∀(n:Nat) (a:List UInt8),a.length=n->a≠[]->a.all ee=true->(1<a.length->a.head?≠some 48)->decDigits (dV a 0).toNat=a/\(a.head?≠some 48->0<dV a 0):=by
 intro n;induction n with
 |zero=>exact λa h k=>absurd (List.length_eq_zero_iff.1 h) k
 |succ n ih=>
  intro a h k i u;rcases List.eq_nil_or_concat a with rfl|⟨d,b,p⟩
  .exact absurd rfl k
  rw[List.concat_eq_append] at p;subst p;rw[List.all_append,Bool.and_eq_true,List.all_cons,List.all_nil,Bool.and_true] at i;obtain⟨c,s,o⟩:∃c:Nat,b.toNat=48+c/\c<10:=⟨b.toNat-48,by have:=yl i.2;omega,by have:=yl i.2;omega⟩;have l:=ye s;rw[Fd];cases d with
  |nil=>
   refine⟨?_,λg=>?_⟩
   .rw[show(10*dV [] 0+((b.toNat:Int)-48)).toNat=c by show(10*0+((b.toNat:Int)-48)).toNat=c;omega,decDigits,dif_pos o,<-l];rfl
   show 0<10*0+((b.toNat:Int)-48);have:b≠48:=λe=>g (by rw[e];rfl);have:b.toNat≠48:=λe=>this (UInt8.toNat_inj.1 e);omega
  |cons f d=>
   have m:(f::d).head?≠some 48:=u Q1;obtain⟨g,q⟩:=ih (f::d) Q2 Q1 i.1 (λ_=>m);have r:=q m;obtain⟨j,t⟩:∃j:Nat,dV (f::d) 0=(j:Int):=⟨(dV (f::d) 0).toNat,Q0⟩;rw[t] at g r⊢;refine⟨?_,λ_=>Q0⟩;rw[show(10*(j:Int)+((b.toNat:Int)-48)).toNat=10*j+c by omega,Nd o Q0,<-l];exact congrArg (· ++[b]) g
theorem M9:∀n:Nat,decDigits n≠[]/\(decDigits n).all ee=true/\(1<(decDigits n).length->(decDigits n).head?≠some 48)/\(0<n->(decDigits n).head?≠some 48):=by
 have c:∀b:Fin 10,ee (UInt8.ofNat (48+b.val))=true/\(0<b.val->UInt8.ofNat (48+b.val)≠48):=R8;intro n;induction n using Nat.strongRecOn with
 |_ n ih=>
  rw[decDigits];by_cases a:n<10
  .rw[dif_pos a];have:=c ⟨n,a⟩;refine⟨Q1,by simpa using this.1,Q1,λg=>?_⟩;simpa using this.2 g
  rw[dif_neg a];obtain⟨h,i,_,j⟩:=ih (n/10) Q0
  have f:(decDigits (n/10)++[UInt8.ofNat (48+n%10)]).head?≠some 48:=by
   cases d:decDigits (n/10) with
   |nil=>exact absurd d h
   |cons k l=>have:=j Q0;rwa[d] at this
  exact⟨Q1,by rw[List.all_append,i];simpa using(c ⟨n%10,Nat.mod_lt _ Q0⟩).1,λ_=>f,λ_=>f⟩
def kn(s:List UInt8):Option Int:=match ek s with
 |some (n,[])=>some n
 |_=>none
def kP(s:List UInt8):Int:=if(1<=s.length/\s.length<=6)/\s.all ee=true/\decDigits (dE s).toNat=s then dE s else-1
theorem OQ(s):kP s=(kn s).getD (-1):=by
 unfold kP;by_cases a:(1<=s.length/\s.length<=6)/\s.all ee=true/\decDigits (dE s).toNat=s
 .obtain⟨b,g,h⟩:=a;have k:s≠[]:=by rintro rfl;simp at b
  have i:=(M9 (dE s).toNat).2.2.1;rw[h] at i
  have p:ek s=some (dV s 0,[]):=by
   unfold ek;have:=sS (t:=[]) k g rfl;rw[List.append_nil] at this;rw[this];exact if_neg (by rintro(a|⟨a,j⟩);omega;exact i a j)
  rw[if_pos ⟨b,g,h⟩,kn,p,dE,if_pos b];rfl
 rw[if_neg a];cases c:kn s with
 |none=>rfl
 |some r=>
  unfold kn at c;split at c
  .rename_i m hm;obtain⟨u,l,n,o,q⟩:=ms hm;obtain⟨e,d,f,_⟩:=iQ l;rw[List.append_nil] at e;subst e;have b:1<=s.length/\s.length<=6:=⟨List.length_pos_iff.2 d,n⟩;refine absurd ⟨b,f,?_⟩ a;rw[dE,if_pos b];exact(Nc _ s rfl d f o).1
  cases c
theorem yL:∀(a:List UInt8) (n:Int),a.all ee=true->0<=n->0<=dV a n/\dV a n+1<=(n+1)*10^a.length
 |[],n,_,c=>⟨c,by simp[dV]⟩
 |b::a,n,c,g=>by
  simp only[List.all_cons,Bool.and_eq_true] at c
  have h:=yl c.1
  obtain⟨d,f⟩:=yL a (10*n+((b.toNat:Int)-48)) c.2 Q0
  refine⟨d,?_⟩
  rw[dV,List.length_cons,Int.pow_succ,Int.mul_comm (10^a.length),<-Int.mul_assoc]
  refine Int.le_trans f (Int.mul_le_mul_of_nonneg_right Q0 (Int.pow_nonneg Q0))
theorem EP{s n}(a:kn s=some n):0<=n/\n<=999999:=by
 unfold kn at a;split at a
 .rename_i m hm;rw[Option.some.injEq] at a;subst a;obtain⟨b,d,i,j,f⟩:=ms hm;obtain⟨_,_,c,_⟩:=iQ d;obtain⟨k,l⟩:=yL b 0 c Q0
  have:(10:Int)^b.length<=1000000:=by
   have g:∀h:Fin 7,(10:Int)^h.val<=1000000:=R8;exact g ⟨b,Q0⟩
  rw[<-f];omega
 cases a
def f5(ps:List Prd)(s:List UInt8):Option Atm:=match eH ps s with
 |some (a,[])=>some a
 |_=>none
theorem vr{c}(j:∀l∈c,0<=l.arity){d}:ao c d↔cf c d=0:=by
 constructor
 .rintro⟨b,f,h⟩;have i:=fd.2 b;obtain⟨k,g,e⟩:=b;have m:dN c d.pred=c[k].arity:=by rw[e];simp[dN,g]
  have n:=j _ (List.getElem_mem g);unfold cf;rw[if_pos i,if_pos Q0];unfold i_;rw[if_pos h]
 intro a;obtain⟨b,f⟩:=gP a;refine⟨fd.1 b,?_,f⟩;unfold cf at a;rw[if_pos b] at a;split at a
 .omega
 cases a
theorem MI{a}(f:ak a)(g:∀j∈a,0<=j.arity)(s):(if cf a (fi a s)=0/\c_ a (fi a s)=s then some (fi a s) else none)=f5 a s:=by
 split
 .rename_i h;have:=xY f ((vr g).2 h.1) (u:=[]) rfl;rw[List.append_nil,h.2] at this;rw[f5,this]
 rename_i h;cases d:f5 a s with
 |none=>rfl
 |some k=>
  unfold f5 at d;split at d
  .rename_i b hb;obtain⟨e,i⟩:=sl hb;rw[List.append_nil] at e;have c:=uT f i;rw[<-e] at c;exact absurd ⟨by rw[c];exact(vr g).1 i,by rw[c,<-e]⟩ h
  cases d
theorem DT{c}(f:∀g∈c,0<=g.arity){s d}(a:f5 c s=some d):cf c d=0:=by
 unfold f5 at a;split at a
 .rename_i b hb;rw[Option.some.injEq] at a;subst a;exact(vr f).1 (sl hb).2
 cases a
def fp(l:List Nat):List UInt8:=[32].intercalate (l.map decDigits)
theorem yt(c d):∀b:List (List UInt8),c.intercalate (b++[d])=(if b=[] then[] else c.intercalate b++c)++d
 |[]=>by simp[List.intercalate]
 |[a]=>by simp[List.intercalate]
 |a::f::b=>by
  have:=yt c d (f::b)
  simp only[List.intercalate,List.cons_append,List.intersperse,List.flatten_cons,reduceCtorEq,if_false] at this⊢
  rw[this]
  simp
