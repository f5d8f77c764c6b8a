import Derived.WalkKit
set_option maxRecDepth 100000
set_option maxHeartbeats 0
namespace Go.Proofs.YtlfccloaoopadagGreatDoor
open Go Go.RowKit
theorem hid_{p:Prop}(h:p):Hid p:=h
theorem bt_{a b c:World}(h:Below a.heap.size a b)(k:Below b.heap.size b c):Below a.heap.size a c:=h.trans (k.mono h.size)
theorem an_{a b:Prop}(h:a)(k:b):a∧b:=⟨h,k⟩
theorem ex_{α:Sort _}(x:α):∃y,x=y:=⟨x,rfl⟩
theorem mo_{P f a w v}{R:World→Prop}{K}(h:Calls P f a w fun e w'=>e=v∧R w')(k:∀w',R w'→K v w'):Calls P f a w K:=h.mono fun _ w' ⟨x,y⟩=>x▸k w' y
theorem mq_{P f a w v u K}(h:Calls P f a w fun e w'=>e=v∧w'=u)(k:K v u):Calls P f a w K:=h.mono fun _ _ ⟨x,y⟩=>x▸y▸k
instance:Coe World Nat:=⟨fun w=>w.heap.size⟩
instance:Coe Nat Addr:=⟨fun b=>⟨b,0,none⟩⟩
instance:Coe Int Value:=⟨fun n=>.int .i64 n⟩
instance:Coe Nat Value:=⟨fun n=>.int .i64 (n:Int)⟩
instance{α}:CoeOut (List α) Nat:=⟨List.length⟩
instance{α:Sort _}{β:α→Prop}:CoeFun (Hid (∀x,β x)) (fun _=>∀x,β x):=⟨Hid.out⟩
variable{p:Prop}
def jq(k:Int):Int:=if k=0 then 0 else 15
def cp(k v:Int):Int:=if k<0\/4<=k then 4 else if v<0\/jq k<v then 3 else 0
def jI(a b:Int):Int:=if a<b then b else a
def jJ(a b:Int):Int:=if a<b then a else b
def ij(k a b:Int):Int:=if cp k a=0 then cp k b else cp k a
def nr(a b:Int):Int:=bits BinOp.or IntKind.i64 a b
def eM(n:Int):Int:=if 15<n then 15 else n
def dv(k a b:Int):Int:=if k=1 then jI a b else if k=2 then jJ a b else if k=3 then nr a b else 0
def fG(k a b:Int):Int:=if k=1 then eM (a+b) else if k=2 then eM (a+b) else if k=3 then nr a b else 0
def lE(k a b:Int):Int:=if ij k a b=0 then dv k a b else 0
def mI(k a b:Int):Int:=if ij k a b=0 then fG k a b else 0
theorem gz{k b}(a:cp k b=0):(k=0\/k=1\/k=2\/k=3)/\0<=b/\b<=15:=by
 unfold cp jq at a;split at a
 .omega
 split at a
 .omega
 split at* <;>omega
def bQ(n lo hi:Int):Bool:=lo<=n&&n<=hi
theorem QZ(h:p:=by decide+kernel):p:=h
theorem Ip:∀a b:Fin 16,nr (a.val:Int) (b.val:Int)=((a.val|||b.val:Nat):Int):=QZ
theorem ns(a b:Nat)(c:a<16)(d:b<16):nr (a:Int) (b:Int)=((a|||b:Nat):Int):=Ip ⟨a,c⟩ ⟨b,d⟩
theorem wK{a b}(c:a<16)(d:b<16):a|||b<16:=Nat.or_lt_two_pow (n:=4) c d
theorem Q0(h:p:=by omega):p:=h
theorem mH{k a}(d:k=1\/k=2\/k=3)(b:0<=a)(c:a<=15):cp k a=0:=by
 unfold cp jq;rw[if_neg Q0,if_neg Q0]
theorem wG{b}(a:cp 0 b=0):b=0:=by
 unfold cp jq at a;simp at a;omega
theorem mJ{a}(b:0<=a)(c:a<=15):∃n:Nat,n<16/\a=(n:Int):=⟨a.toNat,Q0,Q0⟩
theorem tM(a b):dv 0 a b=0:=rfl
theorem pM(a b):dv 1 a b=jI a b:=rfl
theorem pN(a b):dv 2 a b=jJ a b:=rfl
theorem pL(a b):dv 3 a b=nr a b:=rfl
theorem Q1(h:p:=by simp):p:=h
theorem pJ{k a b}(j:cp k a=0)(l:cp k b=0):cp k (dv k a b)=0:=by
 obtain⟨m,f,g⟩:=gz j;obtain⟨_,h,i⟩:=gz l;rcases m with rfl|rfl|rfl|rfl
 .rfl
 .rw[pM];unfold jI;split<;>exact mH Q1 Q0 Q0
 .rw[pN];unfold jJ;split<;>exact mH Q1 Q0 Q0
 obtain⟨n,c,rfl⟩:=mJ f g;obtain⟨o,d,rfl⟩:=mJ h i;rw[pL,ns n o c d];have:=wK c d;exact mH Q1 Q0 Q0
theorem Hz{k a b}(c:cp k a=0)(d:cp k b=0):cp k (fG k a b)=0:=by
 obtain⟨f,g,h⟩:=gz c;obtain⟨_,i,j⟩:=gz d;rcases f with rfl|rfl|rfl|rfl
 .rfl
 .show cp 1 (eM (a+b))=0;unfold eM;split<;>exact mH Q1 Q0 Q0
 .show cp 2 (eM (a+b))=0;unfold eM;split<;>exact mH Q1 Q0 Q0
 exact pJ c d
theorem tL{k a b}(m:cp k a=0)(n:cp k b=0):dv k a b=dv k b a:=by
 obtain⟨o,h,i⟩:=gz m;obtain⟨_,j,l⟩:=gz n;rcases o with rfl|rfl|rfl|rfl
 .rw[tM,tM]
 .simp only[pM,jI];split<;>split<;>omega
 .simp only[pN,jJ];split<;>split<;>omega
 obtain⟨f,c,rfl⟩:=mJ h i;obtain⟨g,d,rfl⟩:=mJ j l;rw[pL,pL,ns f g c d,ns g f d c,Nat.or_comm]
theorem wH{k a}(b:cp k a=0):dv k a a=a:=by
 obtain⟨h,f,g⟩:=gz b;rcases h with rfl|rfl|rfl|rfl
 .rw[wG b];rfl
 .simp[pM,jI]
 .simp[pN,jJ]
 obtain⟨d,c,rfl⟩:=mJ f g;rw[pL,ns d d c c,Nat.or_self]
theorem pK{k b c d}(r:cp k b=0)(s:cp k c=0)(t:cp k d=0):dv k (dv k b c) d=dv k b (dv k c d):=by
 obtain⟨u,l,m⟩:=gz r;obtain⟨_,n,o⟩:=gz s;obtain⟨_,p,q⟩:=gz t;rcases u with rfl|rfl|rfl|rfl
 .rw[tM,tM]
 .simp only[pM,jI];repeat' split;all_goals omega
 .simp only[pN,jJ];repeat' split;all_goals omega
 obtain⟨h,f,rfl⟩:=mJ l m;obtain⟨i,a,rfl⟩:=mJ n o;obtain⟨j,g,rfl⟩:=mJ p q;simp only[pL];rw[ns h i f a,ns i j a g,ns _ j (wK f a) g,ns h _ f (wK a g),Nat.or_assoc]
def fF(k a b:Int):Prop:=dv k a b=b
theorem rl{k a}(b:cp k a=0):fF k a a:=wH b
theorem Ih{k a b}(f:cp k a=0)(g:cp k b=0)(d:fF k a b)(c:fF k b a):a=b:=by
 unfold fF at d c;rw[tL g f,d] at c;exact c.symm
theorem wJ{k a b c}(g:cp k a=0)(h:cp k b=0)(i:cp k c=0)(d:fF k a b)(f:fF k b c):fF k a c:=by
 unfold fF at*;rw[<-f,<-pK g h i,d]
theorem wI{k a c}(b:cp k a=0)(d:cp k c=0):fF k a (dv k a c):=by
 unfold fF;rw[<-pK b b d,wH b]
theorem AH{k b a}(c:cp k b=0)(d:cp k a=0):fF k a (dv k b a):=by
 rw[tL c d];exact wI d c
theorem Ie{k d f c}(a:cp k d=0)(b:cp k f=0)(g:cp k c=0):fF k (dv k d f) c↔fF k d c/\fF k f c:=by
 constructor
 .intro h;exact⟨wJ a (pJ a b) g (wI a b) h,wJ b (pJ a b) g (AH a b) h⟩
 rintro⟨i,j⟩;unfold fF at*;rw[pK a b g,j,i]
theorem Ii{k c a n}(f:cp k c=0)(d:cp k a=0)(b:cp k n=0)(g:fF k c a):fF k (fG k c n) (fG k a n):=by
 obtain⟨h,i,j⟩:=gz f;obtain⟨_,l,m⟩:=gz d;obtain⟨_,o,p⟩:=gz b;rcases h with rfl|rfl|rfl|rfl
 .rfl
 .unfold fF at*;rw[pM] at*;show jI (eM (c+n)) (eM (a+n))=eM (a+n);unfold jI eM at*;repeat' split;all_goals(split at g<;>omega)
 .unfold fF at*;rw[pN] at*;show jJ (eM (c+n)) (eM (a+n))=eM (a+n);unfold jJ eM at*;repeat' split;all_goals(split at g<;>omega)
 unfold fF at*;show dv 3 (dv 3 c n) (dv 3 a n)=dv 3 a n;rw[tL f b,pK b f (pJ d b),<-pK f d b,g,tL d b,<-pK b b d,wH b]
