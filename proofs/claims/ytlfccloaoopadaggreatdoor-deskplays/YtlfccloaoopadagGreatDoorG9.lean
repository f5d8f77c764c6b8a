import Derived.Test.YtlfccloaoopadagGreatDoorChecked
import Derived.Shelf.Abstract
import Derived.Test.YtlfccloaoopadagGreatDoorG5
open Go.Proofs.Tryz
set_option maxRecDepth 100000
set_option maxHeartbeats 0
namespace Go.Proofs.YtlfccloaoopadagGreatDoor
open Go.ChangeShapes Go.WideShapes Go.ChangeAt Go.RowKit
variable{p:Prop}
def zA(w:World)(b o:Nat)(x:Nat):Prop:=w.cell? ⟨b,o,none⟩=some (.int .u8 (x:Int))
abbrev ti:World->Value->List Nat->Prop:=jm 1 zA
def fS(q:Prd):Value:=.agg #[.string q.name,q.arity,q.kind]
def iB(q:Fct):Value:=.agg #[q.pred,q.a,q.b,q.val]
def qP(q:Nat):Value:=.int .u8 (q:Int)
def ic{α:Type}(V:α->Value)(g:Nat)(lb:Array Value)(p:α->Bool)(xs:List α)(w:World):Prop:=
 ∀(w1:World) (q:α),Below w w w1->q∈xs->Calls prog g (#[V q]++lb) w1 λe w'=>e=.returned (.bool (p q))/\Below w1 w1 w'
theorem RN(h:p:=by rintro rfl;simp at hlt):p:=h
theorem RO(h:p:=by show _=_;rw[j5 hlt,hno,Bool.false_or]):p:=h
theorem RP(h:p:=by omega):p:=h
theorem RQ(h:p:=by rw[HY'.out];simp):p:=h
theorem RR(h:p:=by rw[HE.out];decide):p:=h
theorem ae9(h:p:=by
 rw[hq] at hcall HT
 clear HY
 go_wp2_with(go_at_fn g;refine mo_ hcall λw1 hb1=>?_)
 go_roundw
 case rel=>exact⟨j+1,RP,by go_num,HT.out,hbw.trans (hb1.mono hbw.size)⟩
 simp[intOf];omega):p:=h
theorem ZC(h:p:=by
 have HE:=hid_ (l8 hlt hno)
 clear hno HP HX
 go_wp2_with fail
 go_ret
 exact⟨-1,rfl,RR,hbw⟩):p:=h
theorem Gi(b:World)(o a g n)(y:∀l b,(callFunc g l).run prog b=.ok (.enter g l) b)(p:Prd->Bool)(c:bR b o a)(m:ic fS g n p a b):Calls prog 107 #[o,.func (.func g) #[] n] b λe w=>∃d:Int,e=.returned d/\decide (0<=d)=a.any p/\Below b b w:=by
 obtain⟨E,F,rfl,C,c⟩:=c;have HX:=hid_ c;have HP:=hid_ m;clear c m;go_enter func107,ntmps107;go_wp2_with fail;go_loopw [8] (λd wr=>∃j:Nat,j<=a.length/\d=.int .i64 j/\(a.take j).any p=false/\Below b b wr) (λd _=>a.length-(intOf d).toNat)
 case atStart=>exact⟨0,Nat.zero_le _,rfl,rfl,Below.refl _ _⟩
 obtain⟨j,z,rfl,hno,hbw⟩:=hrel;by_cases hlt:j<a.length
 .obtain⟨x,D,rfl,f,c⟩:=HX.out.resolve_left RN;have hcall:=HP wr a[j] hbw (List.getElem_mem hlt);have HT:Hid ((a.take (j+1)).any p=p a[j]):=RO;have HY:=hid_ λ(q:p a[j]=true)=>mZ hlt q;have r:=c j a[j] (by simp[hlt]);have B:(j:Int)<(a.length:Int):=RP;have A:(0:Int)<=(j:Int):=RP;clear c hno HP HX;generalize a[j]=s at*;obtain⟨v,t,u⟩:=s;obtain⟨h,i,k⟩:=r;replace h:=(bF hbw f).trans h;replace i:=(bF hbw f).trans i;replace k:=(bF hbw f).trans k;simp only[fS] at hcall;dsimp only at h i k;cases hq:p ⟨v,t,u⟩
  .exact ae9
  rw[hq] at hcall HY;have HY':=hid_ (HY rfl);clear HT HY;go_wp2_with(go_at_fn g;refine mo_ hcall λw1 hb1=>?_);go_ret;exact⟨(j:Int),rfl,RQ,hbw.trans (hb1.mono hbw.size)⟩
 exact ZC
theorem RS(h:p:=by rw[<-HI.out];rfl):p:=h
theorem Zz(h:p:=by
 rintro e w1 ⟨i,rfl,hi,hb⟩
 have HI:=hid_ hi
 clear hi
 go_wp2_with fail
 go_ret
 exact⟨RS,hb⟩):p:=h
theorem qS(a:World)(f c b d)(m:∀g a,(callFunc b g).run prog a=.ok (.enter b g) a)(p:Prd->Bool)(j:bR a f c)(h:ic fS b d p c a):Calls prog 163 #[f,.func (.func b) #[] d] a λe n=>e=.returned (.bool (c.any p))/\Below a a n:=by
 have l:=hid_ j;have k:=hid_ h;clear j h;go_enter func163,ntmps163;go_wp2_with fail;refine(Gi a f c b d m p l k.out).mono ?_;exact Zz
theorem ae6(h:p:=by
 cases hq:p q
 .rw[hq] at hcall HT
  clear HY
  go_wp2_with(go_at_fn g;refine mo_ hcall λw1 hb1=>?_)
  go_roundw
  case rel=>exact⟨j+1,RP,by go_num,HT.out,hbw.trans (hb1.mono hbw.size)⟩
  simp[intOf];omega
 rw[hq] at hcall HY
 have HY':=hid_ (HY rfl)
 clear HT HY
 go_wp2_with(go_at_fn g;refine mo_ hcall λw1 hb1=>?_)
 go_ret
 exact⟨(j:Int),rfl,RQ,hbw.trans (hb1.mono hbw.size)⟩):p:=h
theorem abs(h:p:=by
 rw[bF hbw hbl]
 have:=hcell
 rw[Nat.mul_one] at this
 exact this):p:=h
theorem Gf(b:World)(k a g i)(r:∀f b,(callFunc g f).run prog b=.ok (.enter g f) b)(p:Nat->Bool)(c:ti b k a)(h:ic qP g i p a b):Calls prog 242 #[k,.func (.func g) #[] i] b λe o=>∃d:Int,e=.returned d/\decide (0<=d)=a.any p/\Below b b o:=by
 obtain⟨x,y,rfl,v,c⟩:=c;have HX:=hid_ c;have HP:=hid_ h;clear c h;go_enter func242,ntmps242;go_wp2_with fail;go_loopw [8] (λd wr=>∃j:Nat,j<=a.length/\d=.int .i64 j/\(a.take j).any p=false/\Below b b wr) (λd _=>a.length-(intOf d).toNat)
 case atStart=>exact⟨0,Nat.zero_le _,rfl,rfl,Below.refl _ _⟩
 obtain⟨j,s,rfl,hno,hbw⟩:=hrel;by_cases hlt:j<a.length
 .obtain⟨l,n,rfl,hbl,c⟩:=HX.out.resolve_left RN;have hcall:=HP wr a[j] hbw (List.getElem_mem hlt);have HT:Hid ((a.take (j+1)).any p=p a[j]):=RO;have HY:=hid_ λ(m:p a[j]=true)=>mZ hlt m;have hcell:=c j a[j] (by simp[hlt]);have u:(j:Int)<(a.length:Int):=RP;have t:(0:Int)<=(j:Int):=RP;clear c hno HP HX;generalize a[j]=q at*
  have w:wr.cell? ⟨l,n+j,none⟩=some (.int .u8 (q:Int)):=by
   exact abs
  clear hcell;simp only[qP] at hcall;exact ae6
 exact ZC
theorem FZ(a:World)(f c b d)(m:∀g a,(callFunc b g).run prog a=.ok (.enter b g) a)(p:Nat->Bool)(j:ti a f c)(h:ic qP b d p c a):Calls prog 203 #[f,.func (.func b) #[] d] a λe n=>e=.returned (.bool (c.any p))/\Below a a n:=by
 have l:=hid_ j;have k:=hid_ h;clear j h;go_enter func203,ntmps203;go_wp2_with fail;refine(Gf a f c b d m p l k.out).mono ?_;exact Zz
structure aI where
 l:Ltr
 a:Option Addr
 n:Nat
 c:Nat
def aI.b(x:aI):Value:=.agg #[.bool x.l.neg,x.l.atom.pred,.slice x.a x.n x.c]
def qU(w:World)(b o:Nat)(x:aI):Prop:=w.cell? ⟨b,o,none⟩=some (.bool x.l.neg)/\w.cell? ⟨b,o+1,none⟩=some (.int .i64 x.l.atom.pred)/\w.cell? ⟨b,o+2,none⟩=some (.slice x.a x.n x.c)
abbrev tq:World->Value->List aI->Prop:=jm 3 qU
def zQ(w:World)(b o:Nat)(x:Int):Prop:=w.cell? ⟨b,o,none⟩=some (.int .i64 x)
abbrev vX:World->Value->List Int->Prop:=jm 1 zQ
def qX(q:Int):Value:=.int .i64 q
theorem Gg(c:World)(r a g l)(w:∀i c,(callFunc g i).run prog c=.ok (.enter g i) c)(p:aI->Bool)(d:tq c r a)(k:ic aI.b g l p a c):Calls prog 216 #[r,.func (.func g) #[] l] c λe u=>∃f:Int,e=.returned f/\decide (0<=f)=a.any p/\Below c c u:=by
 obtain⟨F,G,rfl,A,d⟩:=d;have HX:=hid_ d;have HP:=hid_ k;clear d k;go_enter func216,ntmps216;go_wp2_with fail;go_loopw [8] (λf wr=>∃j:Nat,j<=a.length/\f=.int .i64 j/\(a.take j).any p=false/\Below c c wr) (λf _=>a.length-(intOf f).toNat)
 case atStart=>exact⟨0,Nat.zero_le _,rfl,rfl,Below.refl _ _⟩
 obtain⟨j,x,rfl,hno,hbw⟩:=hrel;by_cases hlt:j<a.length
 .obtain⟨v,B,rfl,h,d⟩:=HX.out.resolve_left RN;have hcall:=HP wr a[j] hbw (List.getElem_mem hlt);have HT:Hid ((a.take (j+1)).any p=p a[j]):=RO;have HY:=hid_ λ(s:p a[j]=true)=>mZ hlt s;have t:=d j a[j] (by simp[hlt]);have z:(j:Int)<(a.length:Int):=RP;have y:(0:Int)<=(j:Int):=RP;clear d hno HP HX;generalize a[j]=q at*;obtain⟨m,n,o⟩:=t;have C:=(bF hbw h).trans m;have D:=(bF hbw h).trans n;have E:=(bF hbw h).trans o;clear m n o;simp only[aI.b] at hcall;exact ae6
 exact ZC
theorem zG(a:World)(g d c f)(n:∀h a,(callFunc c h).run prog a=.ok (.enter c h) a)(p:aI->Bool)(k:tq a g d)(j:ic aI.b c f p d a):Calls prog 174 #[g,.func (.func c) #[] f] a λe o=>e=.returned (.bool (d.any p))/\Below a a o:=by
 have m:=hid_ k;have l:=hid_ j;clear k j;go_enter func174,ntmps174;go_wp2_with fail;refine(Gg a g d c f n p m l.out).mono ?_;exact Zz
theorem Gh(b:World)(k a g i)(r:∀f b,(callFunc g f).run prog b=.ok (.enter g f) b)(p:Int->Bool)(c:vX b k a)(h:ic qX g i p a b):Calls prog 255 #[k,.func (.func g) #[] i] b λe o=>∃d:Int,e=.returned d/\decide (0<=d)=a.any p/\Below b b o:=by
 obtain⟨x,y,rfl,v,c⟩:=c;have HX:=hid_ c;have HP:=hid_ h;clear c h;go_enter func255,ntmps255;go_wp2_with fail;go_loopw [8] (λd wr=>∃j:Nat,j<=a.length/\d=.int .i64 j/\(a.take j).any p=false/\Below b b wr) (λd _=>a.length-(intOf d).toNat)
 case atStart=>exact⟨0,Nat.zero_le _,rfl,rfl,Below.refl _ _⟩
 obtain⟨j,s,rfl,hno,hbw⟩:=hrel;by_cases hlt:j<a.length
 .obtain⟨l,n,rfl,hbl,c⟩:=HX.out.resolve_left RN;have hcall:=HP wr a[j] hbw (List.getElem_mem hlt);have HT:Hid ((a.take (j+1)).any p=p a[j]):=RO;have HY:=hid_ λ(m:p a[j]=true)=>mZ hlt m;have hcell:=c j a[j] (by simp[hlt]);have u:(j:Int)<(a.length:Int):=RP;have t:(0:Int)<=(j:Int):=RP;clear c hno HP HX;generalize a[j]=q at*
  have w:wr.cell? ⟨l,n+j,none⟩=some (.int .i64 q):=by
   exact abs
  clear hcell;simp only[qX] at hcall;exact ae6
 exact ZC
theorem F0(a:World)(f c b d)(m:∀g a,(callFunc b g).run prog a=.ok (.enter b g) a)(p:Int->Bool)(j:vX a f c)(h:ic qX b d p c a):Calls prog 236 #[f,.func (.func b) #[] d] a λe n=>e=.returned (.bool (c.any p))/\Below a a n:=by
 have l:=hid_ j;have k:=hid_ h;clear j h;go_enter func236,ntmps236;go_wp2_with fail;refine(Gh a f c b d m p l k.out).mono ?_;exact Zz
