import Derived.Lib.AtoiErrMem
import Derived.Test.YtlfccloaoopadagGreatDoorG3
import Derived.Test.YtlfccloaoopadagGreatDoorG11
open Go.Proofs.Tryz
set_option maxRecDepth 100000
set_option maxHeartbeats 0
open Go.Lib (atoi decDigits decFrom hasPrefix)
namespace Go.Proofs.YtlfccloaoopadagGreatDoor
open Go.Shelf Go.RowKit
variable{p:Prop}
theorem vq:∀(p s:List UInt8),hasPrefix s p=(bT p s).isSome
 |[],s=>by simp[hasPrefix,bT]
 |a::p,[]=>by simp[hasPrefix,bT]
 |a::p,c::s=>by
  have:=vq p s
  unfold hasPrefix at this⊢
  rw[List.isPrefixOf_cons_cons,bT,this]
  by_cases b:a=c
  .simp[b]
  simp[b]
theorem Qa(p s):Lib.trimPrefix s p=(bT p s).getD s:=by
 unfold Lib.trimPrefix;rw[vq];cases a:bT p s with
 |none=>rfl
 |some b=>simp[gi.1 a]
theorem NZ(s p)(a:World):Calls prog 104 #[.string s,.string p] a λe b=>e=.returned (.bool (bT (bG p) (bG s)).isSome)/\b=a:=by
 rw[<-vq];exact Any.strings_HasPrefix Om s p a
theorem yk(s p)(a:World):Calls prog 31 #[.string s,.string p] a λe b=>e=.returned (.tuple #[.string ⟨((bT (bG p) (bG s)).getD (bG s)).toArray⟩,.bool (bT (bG p) (bG s)).isSome])/\b=a:=by
 rw[<-vq,<-Qa];exact Any.strings_CutPrefix Ok s p a
theorem Ec:∀k:Fin 100,decDigits k.val=bG (b_ (k.val:Int)):=by
 intro⟨k,f⟩;show decDigits k=bG (b_ (k:Int));by_cases a:k<10
 .rw[decDigits,dif_pos a];have:∀k:Fin 10,[UInt8.ofNat (48+k.val)]=bG (b_ (k.val:Int)):=QY;exact this ⟨k,a⟩
 rw[decDigits,dif_neg a,decDigits,dif_pos Q0];have:∀b:Fin 10,∀d:Fin 10,b.val≠0->[UInt8.ofNat (48+b.val)]++[UInt8.ofNat (48+d.val)]=bG (b_ (((10*b.val+d.val:Nat):Int))):=QY;have c:=this ⟨k/10,Q0⟩ ⟨k%10,Q0⟩ (by show k/10≠0;omega);simp only at c;rw[c];congr 3;omega
theorem Eu(n:Int)(f:0<=n)(g:n<=99)(b:World):Calls prog 85 #[n] b λe d=>e=.returned (.string (b_ n))/\d=b:=by
 obtain⟨a,rfl⟩:∃a:Nat,n=(a:Int):=⟨n.toNat,Q0⟩;have c:=Any.strconv_Itoa_small Oo a Q0 b;have e:(⟨(decDigits a).toArray⟩:ByteArray)=b_ (a:Int):=kj (by rw[<-Ec ⟨a,Q0⟩];unfold bG;simp);rw[e] at c;exact c
theorem Eg:∀(c:List UInt8) (a:Nat),c.all ee=true->∃n:Nat,decFrom a c=some n/\dV c (a:Int)=(n:Int)
 |[],a,_=>⟨a,rfl,rfl⟩
 |b::c,a,d=>by
  simp only[List.all_cons,Bool.and_eq_true] at d
  have h:48<=b.toNat/\b.toNat<=57:=by have:=d.1;unfold ee at this;simpa using this
  obtain⟨n,f,g⟩:=Eg c (a*10+(b.toNat-48)) d.2
  refine⟨n,?_,?_⟩
  .rw[decFrom,Lib.digitVal,if_pos h]
   exact f
  rw[dV,<-g]
  congr 1
  omega
theorem Sb(h:p:=by simp only[beq_eq_false_iff_ne];rintro rfl;exact absurd hb.1 (by decide)):p:=h
theorem ME{a}(g:a≠[])(c:a.all ee=true):atoi a=some (dV a 0):=by
 obtain⟨k,h,i⟩:=Eg a 0 c;cases a with
 |nil=>exact absurd rfl g
 |cons b a=>
  have hb:48<=b.toNat/\b.toNat<=57:=by simp only[List.all_cons,Bool.and_eq_true] at c;have:=c.1;unfold ee at this;simpa using this
  have d:(b==45)=false:=Sb;have f:(b==43)=false:=Sb;rw[atoi,d,f];simp only[Bool.false_eq_true,if_false];have e:Lib.decNat (b::a)=decFrom 0 (b::a):=rfl;have j:dV (b::a) 0=(k:Int):=i;rw[e,h,j];rfl
theorem MD(a)(f:a≠[])(d:a.all ee=true)(g:a.length<=6)(b:World):Calls prog 106 #[.string ⟨a.toArray⟩] b λe c=>e=.returned (.tuple #[.int .i64 (dV a 0),.nilIface])/\Below b b c:=by
 refine(Any.strconv_Atoi Og ⟨a.toArray⟩ (dV a 0) (by show a.toArray.size<=18;simp;omega) (by simpa using ME f d) b).mono ?_;rintro e c ⟨rfl,h,rfl⟩;exact⟨rfl,Lib.bytesWorld_below _ _ _⟩
theorem Ev(c o f:Nat)(a:List ByteArray)(d:ByteArray)(b:World)(k:∀(g:Nat) x,a[g]? =some x->b.cell? ⟨c,o+g,none⟩=some (.string x))(i:c<b.heap.size)(h:a.length<=140737488355328)(j:a.length<=f)(l:((bG d).intercalate (a.map bG)).length<=140737488355328):Calls prog 86 #[.slice (some ⟨c,o,none⟩) a f,.string d] b λe m=>e=.returned (.string ⟨((bG d).intercalate (a.map bG)).toArray⟩)/\Below b b m:=
 Any.strings_Join Ov NF c o f a d b k i h j l
