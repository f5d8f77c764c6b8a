import Derived.Test.YtlfccloaoopadagGreatDoorRows
import Derived.Test.YtlfccloaoopadagGreatDoorG5
open Go.Proofs.Tryz
set_option maxRecDepth 100000
set_option maxHeartbeats 0
open Option.some (inj)
namespace Go.Proofs.YtlfccloaoopadagGreatDoor
open Go.ChangeShapes Go.WideShapes Go.ChangeAt Go.RowKit
variable{p:Prop}
def b9:List Prd:=[⟨ByteArray.mk #[101,100,103,101],2,0⟩,⟨ByteArray.mk #[102,97,114],2,2⟩,⟨ByteArray.mk #[108,111,110,101],1,0⟩]
def ca:List Rul:=[
 ⟨⟨0,[⟨false,0⟩,⟨false,1⟩]⟩,-1,0,[]⟩,
 ⟨⟨0,[⟨false,1⟩,⟨false,2⟩]⟩,-1,0,[]⟩,
 ⟨⟨0,[⟨false,2⟩,⟨false,0⟩]⟩,-1,0,[]⟩,
 ⟨⟨0,[⟨false,3⟩,⟨false,0⟩]⟩,-1,0,[]⟩,
 ⟨⟨1,[⟨true,0⟩,⟨true,1⟩]⟩,-1,1,[⟨false,⟨0,[⟨true,0⟩,⟨true,1⟩]⟩⟩]⟩,
 ⟨⟨1,[⟨true,0⟩,⟨true,2⟩]⟩,0,1,[⟨false,⟨1,[⟨true,0⟩,⟨true,1⟩]⟩⟩,⟨false,⟨0,[⟨true,1⟩,⟨true,2⟩]⟩⟩]⟩,
 ⟨⟨2,[⟨true,0⟩]⟩,-1,0,[⟨false,⟨0,[⟨true,0⟩,⟨true,1⟩]⟩⟩,⟨true,⟨1,[⟨true,0⟩,⟨true,0⟩]⟩⟩]⟩]
def fI(w:World):List Obj->World
 |[]=>w
 |o::l=>fI (w.alloc o) l
theorem Ce:∀(l:List Obj) (a:World),(fI a l).heap.size=a.heap.size+l.length
 |[],a=>rfl
 |o::l,a=>by rw[fI,Ce l];simp;omega
theorem xk:∀(l:List Obj) (a:World),Below a a (fI a l)
 |[],a=>Below.refl _ _
 |o::l,a=>(bH a o).trans ((xk l (a.alloc o)).mono Rh)
theorem xl:∀(l:List Obj) (a:World) (b:Nat) (o:Obj),l[b]? =some o->(fI a l).heap[a.heap.size+b]? =some o
 |[],a,b,o,h=>Rf
 |x::l,a,0,o,h=>by
  obtain rfl:x=o:=Rg
  have:=(xk l (a.alloc x)).block a.heap.size Rh
  rw[fI,Nat.add_zero,this]
  show(a.heap.push x)[a.heap.size]? =_
  simp
 |x::l,a,b+1,o,h=>by
  have:=xl l (a.alloc x) b o Rg
  rw[fI,<-this]
  congr 1
  simp;omega
theorem cm{b:World}{l}(a d){c i f}(g:l[a]? =some (.cells c i))(h:c[d]? =some f):(fI b l).cell? ⟨b.heap.size+a,d,none⟩=some f:=by
 have:=xl l b a _ g;simp[World.cell?,this,h]
theorem Cd{b:World}{l}(a f){c g}(d:l[a]? =some (.cells c g)):(fI b l).frozen? ⟨b.heap.size+a,f,none⟩=false:=by
 have:=xl l b a _ d;simp[World.frozen?,this]
def ip(B:Nat):List Obj:=[
 .cells #[.slice (some ⟨B+1,0,none⟩) 3 3,.slice (some ⟨B+62,0,none⟩) 7 7] 30,
 .cells #[.string (ByteArray.mk #[101,100,103,101]),.int .i64 2,.int .i64 0,.string (ByteArray.mk #[102,97,114]),.int .i64 2,.int .i64 2,.string (ByteArray.mk #[108,111,110,101]),.int .i64 1,.int .i64 0] 51,
 .cells #[.bool false,.int .i64 0] 100,
 .cells #[.bool false,.int .i64 1] 100,
 .cells #[.bool false,.int .i64 0,.bool false,.int .i64 1] 100,
 .cells #[.int .i64 0,.slice (some ⟨B+4,0,none⟩) 2 2] 55,
 .cells #[.bool false,.int .i64 1] 100,
 .cells #[.bool false,.int .i64 2] 100,
 .cells #[.bool false,.int .i64 1,.bool false,.int .i64 2] 100,
 .cells #[.int .i64 0,.slice (some ⟨B+8,0,none⟩) 2 2] 55,
 .cells #[.bool false,.int .i64 2] 100,
 .cells #[.bool false,.int .i64 0] 100,
 .cells #[.bool false,.int .i64 2,.bool false,.int .i64 0] 100,
 .cells #[.int .i64 0,.slice (some ⟨B+12,0,none⟩) 2 2] 55,
 .cells #[.bool false,.int .i64 3] 100,
 .cells #[.bool false,.int .i64 0] 100,
 .cells #[.bool false,.int .i64 3,.bool false,.int .i64 0] 100,
 .cells #[.int .i64 0,.slice (some ⟨B+16,0,none⟩) 2 2] 55,
 .cells #[.bool true,.int .i64 0] 100,
 .cells #[.bool true,.int .i64 1] 100,
 .cells #[.bool true,.int .i64 0,.bool true,.int .i64 1] 100,
 .cells #[.int .i64 1,.slice (some ⟨B+20,0,none⟩) 2 2] 55,
 .cells #[.bool true,.int .i64 0] 100,
 .cells #[.bool true,.int .i64 1] 100,
 .cells #[.bool true,.int .i64 0,.bool true,.int .i64 1] 100,
 .cells #[.int .i64 0,.slice (some ⟨B+24,0,none⟩) 2 2] 55,
 .cells #[.int .i64 0,.slice (some ⟨B+24,0,none⟩) 2 2] 55,
 .cells #[.bool false,.int .i64 0,.slice (some ⟨B+24,0,none⟩) 2 2] 103,
 .cells #[.bool false,.int .i64 0,.slice (some ⟨B+24,0,none⟩) 2 2] 103,
 .cells #[.bool true,.int .i64 0] 100,
 .cells #[.bool true,.int .i64 2] 100,
 .cells #[.bool true,.int .i64 0,.bool true,.int .i64 2] 100,
 .cells #[.int .i64 1,.slice (some ⟨B+31,0,none⟩) 2 2] 55,
 .cells #[.bool true,.int .i64 0] 100,
 .cells #[.bool true,.int .i64 1] 100,
 .cells #[.bool true,.int .i64 0,.bool true,.int .i64 1] 100,
 .cells #[.int .i64 1,.slice (some ⟨B+35,0,none⟩) 2 2] 55,
 .cells #[.int .i64 1,.slice (some ⟨B+35,0,none⟩) 2 2] 55,
 .cells #[.bool false,.int .i64 1,.slice (some ⟨B+35,0,none⟩) 2 2] 103,
 .cells #[.bool true,.int .i64 1] 100,
 .cells #[.bool true,.int .i64 2] 100,
 .cells #[.bool true,.int .i64 1,.bool true,.int .i64 2] 100,
 .cells #[.int .i64 0,.slice (some ⟨B+41,0,none⟩) 2 2] 55,
 .cells #[.int .i64 0,.slice (some ⟨B+41,0,none⟩) 2 2] 55,
 .cells #[.bool false,.int .i64 0,.slice (some ⟨B+41,0,none⟩) 2 2] 103,
 .cells #[.bool false,.int .i64 1,.slice (some ⟨B+35,0,none⟩) 2 2,.bool false,.int .i64 0,.slice (some ⟨B+41,0,none⟩) 2 2] 103,
 .cells #[.bool true,.int .i64 0] 100,
 .cells #[.bool true,.int .i64 0] 100,
 .cells #[.int .i64 2,.slice (some ⟨B+47,0,none⟩) 1 1] 55,
 .cells #[.bool true,.int .i64 0] 100,
 .cells #[.bool true,.int .i64 1] 100,
 .cells #[.bool true,.int .i64 0,.bool true,.int .i64 1] 100,
 .cells #[.int .i64 0,.slice (some ⟨B+51,0,none⟩) 2 2] 55,
 .cells #[.int .i64 0,.slice (some ⟨B+51,0,none⟩) 2 2] 55,
 .cells #[.bool false,.int .i64 0,.slice (some ⟨B+51,0,none⟩) 2 2] 103,
 .cells #[.bool true,.int .i64 0] 100,
 .cells #[.bool true,.int .i64 0] 100,
 .cells #[.bool true,.int .i64 0,.bool true,.int .i64 0] 100,
 .cells #[.int .i64 1,.slice (some ⟨B+57,0,none⟩) 2 2] 55,
 .cells #[.int .i64 1,.slice (some ⟨B+57,0,none⟩) 2 2] 55,
 .cells #[.bool true,.int .i64 1,.slice (some ⟨B+57,0,none⟩) 2 2] 103,
 .cells #[.bool false,.int .i64 0,.slice (some ⟨B+51,0,none⟩) 2 2,.bool true,.int .i64 1,.slice (some ⟨B+57,0,none⟩) 2 2] 103,
 .cells #[.int .i64 0,.slice (some ⟨B+4,0,none⟩) 2 2,.int .i64 (-1),.int .i64 0,.slice none 0 0,.int .i64 0,.slice (some ⟨B+8,0,none⟩) 2 2,.int .i64 (-1),.int .i64 0,.slice none 0 0,.int .i64 0,.slice (some ⟨B+12,0,none⟩) 2 2,.int .i64 (-1),.int .i64 0,.slice none 0 0,.int .i64 0,.slice (some ⟨B+16,0,none⟩) 2 2,.int .i64 (-1),.int .i64 0,.slice none 0 0,.int .i64 1,.slice (some ⟨B+20,0,none⟩) 2 2,.int .i64 (-1),.int .i64 1,.slice (some ⟨B+28,0,none⟩) 1 1,.int .i64 1,.slice (some ⟨B+31,0,none⟩) 2 2,.int .i64 0,.int .i64 1,.slice (some ⟨B+45,0,none⟩) 2 2,.int .i64 2,.slice (some ⟨B+47,0,none⟩) 1 1,.int .i64 (-1),.int .i64 0,.slice (some ⟨B+61,0,none⟩) 2 2] 58]
theorem JC(a):(ip a).length=63:=rfl
theorem iZ(a:World)(b)(c:b<63):a.heap.size+b<(fI a (ip a.heap.size)).heap.size:=by rw[Ce,JC];omega
theorem Wu(h:p:=by omega):p:=h
theorem JL(b:World):bR (fI b (ip b.heap.size)) (.slice (some ⟨b.heap.size+1,0,none⟩) 3 3) b9:=by
 refine⟨some ⟨b.heap.size+1,0,none⟩,3,rfl,by decide,.inr ⟨b.heap.size+1,0,rfl,iZ b 1 Wu,?_⟩⟩;intro c d a;match c,a with
 |0,a=>obtain rfl:=(inj a);exact⟨cm 1 0 rfl rfl,cm 1 1 rfl rfl,cm 1 2 rfl rfl⟩
 |1,a=>obtain rfl:=(inj a);exact⟨cm 1 3 rfl rfl,cm 1 4 rfl rfl,cm 1 5 rfl rfl⟩
 |2,a=>obtain rfl:=(inj a);exact⟨cm 1 6 rfl rfl,cm 1 7 rfl rfl,cm 1 8 rfl rfl⟩
 |n+3,a=>exact absurd a (by simp[b9])
theorem JW(b:World):cr (fI b (ip b.heap.size)) (.slice (some ⟨b.heap.size+4,0,none⟩) 2 2) [⟨false,0⟩,⟨false,1⟩]:=by
 refine⟨some ⟨b.heap.size+4,0,none⟩,2,rfl,Rh,.inr ⟨b.heap.size+4,0,rfl,iZ b 4 Wu,?_⟩⟩;intro c d a;match c,a with
 |0,a=>obtain rfl:=(inj a);exact⟨cm 4 0 rfl rfl,cm 4 1 rfl rfl⟩
 |1,a=>obtain rfl:=(inj a);exact⟨cm 4 2 rfl rfl,cm 4 3 rfl rfl⟩
 |n+2,a=>exact absurd a Rh
theorem J2(b:World):cr (fI b (ip b.heap.size)) (.slice (some ⟨b.heap.size+8,0,none⟩) 2 2) [⟨false,1⟩,⟨false,2⟩]:=by
 refine⟨some ⟨b.heap.size+8,0,none⟩,2,rfl,Rh,.inr ⟨b.heap.size+8,0,rfl,iZ b 8 Wu,?_⟩⟩;intro c d a;match c,a with
 |0,a=>obtain rfl:=(inj a);exact⟨cm 8 0 rfl rfl,cm 8 1 rfl rfl⟩
 |1,a=>obtain rfl:=(inj a);exact⟨cm 8 2 rfl rfl,cm 8 3 rfl rfl⟩
 |n+2,a=>exact absurd a Rh
theorem JQ(b:World):cr (fI b (ip b.heap.size)) (.slice (some ⟨b.heap.size+12,0,none⟩) 2 2) [⟨false,2⟩,⟨false,0⟩]:=by
 refine⟨some ⟨b.heap.size+12,0,none⟩,2,rfl,Rh,.inr ⟨b.heap.size+12,0,rfl,iZ b 12 Wu,?_⟩⟩;intro c d a;match c,a with
 |0,a=>obtain rfl:=(inj a);exact⟨cm 12 0 rfl rfl,cm 12 1 rfl rfl⟩
 |1,a=>obtain rfl:=(inj a);exact⟨cm 12 2 rfl rfl,cm 12 3 rfl rfl⟩
 |n+2,a=>exact absurd a Rh
theorem JR(b:World):cr (fI b (ip b.heap.size)) (.slice (some ⟨b.heap.size+16,0,none⟩) 2 2) [⟨false,3⟩,⟨false,0⟩]:=by
 refine⟨some ⟨b.heap.size+16,0,none⟩,2,rfl,Rh,.inr ⟨b.heap.size+16,0,rfl,iZ b 16 Wu,?_⟩⟩;intro c d a;match c,a with
 |0,a=>obtain rfl:=(inj a);exact⟨cm 16 0 rfl rfl,cm 16 1 rfl rfl⟩
 |1,a=>obtain rfl:=(inj a);exact⟨cm 16 2 rfl rfl,cm 16 3 rfl rfl⟩
 |n+2,a=>exact absurd a Rh
theorem JS(b:World):cr (fI b (ip b.heap.size)) (.slice (some ⟨b.heap.size+20,0,none⟩) 2 2) [⟨true,0⟩,⟨true,1⟩]:=by
 refine⟨some ⟨b.heap.size+20,0,none⟩,2,rfl,Rh,.inr ⟨b.heap.size+20,0,rfl,iZ b 20 Wu,?_⟩⟩;intro c d a;match c,a with
 |0,a=>obtain rfl:=(inj a);exact⟨cm 20 0 rfl rfl,cm 20 1 rfl rfl⟩
 |1,a=>obtain rfl:=(inj a);exact⟨cm 20 2 rfl rfl,cm 20 3 rfl rfl⟩
 |n+2,a=>exact absurd a Rh
theorem JT(b:World):cr (fI b (ip b.heap.size)) (.slice (some ⟨b.heap.size+24,0,none⟩) 2 2) [⟨true,0⟩,⟨true,1⟩]:=by
 refine⟨some ⟨b.heap.size+24,0,none⟩,2,rfl,Rh,.inr ⟨b.heap.size+24,0,rfl,iZ b 24 Wu,?_⟩⟩;intro c d a;match c,a with
 |0,a=>obtain rfl:=(inj a);exact⟨cm 24 0 rfl rfl,cm 24 1 rfl rfl⟩
 |1,a=>obtain rfl:=(inj a);exact⟨cm 24 2 rfl rfl,cm 24 3 rfl rfl⟩
 |n+2,a=>exact absurd a Rh
theorem JU(b:World):cr (fI b (ip b.heap.size)) (.slice (some ⟨b.heap.size+31,0,none⟩) 2 2) [⟨true,0⟩,⟨true,2⟩]:=by
 refine⟨some ⟨b.heap.size+31,0,none⟩,2,rfl,Rh,.inr ⟨b.heap.size+31,0,rfl,iZ b 31 Wu,?_⟩⟩;intro c d a;match c,a with
 |0,a=>obtain rfl:=(inj a);exact⟨cm 31 0 rfl rfl,cm 31 1 rfl rfl⟩
 |1,a=>obtain rfl:=(inj a);exact⟨cm 31 2 rfl rfl,cm 31 3 rfl rfl⟩
 |n+2,a=>exact absurd a Rh
theorem JV(b:World):cr (fI b (ip b.heap.size)) (.slice (some ⟨b.heap.size+35,0,none⟩) 2 2) [⟨true,0⟩,⟨true,1⟩]:=by
 refine⟨some ⟨b.heap.size+35,0,none⟩,2,rfl,Rh,.inr ⟨b.heap.size+35,0,rfl,iZ b 35 Wu,?_⟩⟩;intro c d a;match c,a with
 |0,a=>obtain rfl:=(inj a);exact⟨cm 35 0 rfl rfl,cm 35 1 rfl rfl⟩
 |1,a=>obtain rfl:=(inj a);exact⟨cm 35 2 rfl rfl,cm 35 3 rfl rfl⟩
 |n+2,a=>exact absurd a Rh
theorem JX(b:World):cr (fI b (ip b.heap.size)) (.slice (some ⟨b.heap.size+41,0,none⟩) 2 2) [⟨true,1⟩,⟨true,2⟩]:=by
 refine⟨some ⟨b.heap.size+41,0,none⟩,2,rfl,Rh,.inr ⟨b.heap.size+41,0,rfl,iZ b 41 Wu,?_⟩⟩;intro c d a;match c,a with
 |0,a=>obtain rfl:=(inj a);exact⟨cm 41 0 rfl rfl,cm 41 1 rfl rfl⟩
 |1,a=>obtain rfl:=(inj a);exact⟨cm 41 2 rfl rfl,cm 41 3 rfl rfl⟩
 |n+2,a=>exact absurd a Rh
theorem JY(a:World):cr (fI a (ip a.heap.size)) (.slice (some ⟨a.heap.size+47,0,none⟩) 1 1) [⟨true,0⟩]:=by
 refine⟨some ⟨a.heap.size+47,0,none⟩,1,rfl,Rh,.inr ⟨a.heap.size+47,0,rfl,iZ a 47 Wu,?_⟩⟩;intro c d b;match c,b with
 |0,b=>obtain rfl:=(inj b);exact⟨cm 47 0 rfl rfl,cm 47 1 rfl rfl⟩
 |n+1,b=>exact absurd b Rh
theorem JZ(b:World):cr (fI b (ip b.heap.size)) (.slice (some ⟨b.heap.size+51,0,none⟩) 2 2) [⟨true,0⟩,⟨true,1⟩]:=by
 refine⟨some ⟨b.heap.size+51,0,none⟩,2,rfl,Rh,.inr ⟨b.heap.size+51,0,rfl,iZ b 51 Wu,?_⟩⟩;intro c d a;match c,a with
 |0,a=>obtain rfl:=(inj a);exact⟨cm 51 0 rfl rfl,cm 51 1 rfl rfl⟩
 |1,a=>obtain rfl:=(inj a);exact⟨cm 51 2 rfl rfl,cm 51 3 rfl rfl⟩
 |n+2,a=>exact absurd a Rh
theorem J0(b:World):cr (fI b (ip b.heap.size)) (.slice (some ⟨b.heap.size+57,0,none⟩) 2 2) [⟨true,0⟩,⟨true,0⟩]:=by
 refine⟨some ⟨b.heap.size+57,0,none⟩,2,rfl,Rh,.inr ⟨b.heap.size+57,0,rfl,iZ b 57 Wu,?_⟩⟩;intro c d a;match c,a with
 |0,a=>obtain rfl:=(inj a);exact⟨cm 57 0 rfl rfl,cm 57 1 rfl rfl⟩
 |1,a=>obtain rfl:=(inj a);exact⟨cm 57 2 rfl rfl,cm 57 3 rfl rfl⟩
 |n+2,a=>exact absurd a Rh
theorem uh(a:World):dC a (.slice none 0 0) []:=⟨none,0,rfl,Rh,.inl rfl⟩
theorem JF(a:World):dC (fI a (ip a.heap.size)) (.slice (some ⟨a.heap.size+28,0,none⟩) 1 1) [⟨false,⟨0,[⟨true,0⟩,⟨true,1⟩]⟩⟩]:=by
 refine⟨some ⟨a.heap.size+28,0,none⟩,1,rfl,Rh,.inr ⟨a.heap.size+28,0,rfl,iZ a 28 Wu,?_⟩⟩;intro c d b;match c,b with
 |0,b=>obtain rfl:=(inj b);exact⟨cm 28 0 rfl rfl,cm 28 1 rfl rfl,_,cm 28 2 rfl rfl,JT a⟩
 |n+1,b=>exact absurd b Rh
theorem JG(a:World):dC (fI a (ip a.heap.size)) (.slice (some ⟨a.heap.size+45,0,none⟩) 2 2) [⟨false,⟨1,[⟨true,0⟩,⟨true,1⟩]⟩⟩,⟨false,⟨0,[⟨true,1⟩,⟨true,2⟩]⟩⟩]:=by
 refine⟨some ⟨a.heap.size+45,0,none⟩,2,rfl,Rh,.inr ⟨a.heap.size+45,0,rfl,iZ a 45 Wu,?_⟩⟩;intro c d b;match c,b with
 |0,b=>obtain rfl:=(inj b);exact⟨cm 45 0 rfl rfl,cm 45 1 rfl rfl,_,cm 45 2 rfl rfl,JV a⟩
 |1,b=>obtain rfl:=(inj b);exact⟨cm 45 3 rfl rfl,cm 45 4 rfl rfl,_,cm 45 5 rfl rfl,JX a⟩
 |n+2,b=>exact absurd b Rh
theorem JH(a:World):dC (fI a (ip a.heap.size)) (.slice (some ⟨a.heap.size+61,0,none⟩) 2 2) [⟨false,⟨0,[⟨true,0⟩,⟨true,1⟩]⟩⟩,⟨true,⟨1,[⟨true,0⟩,⟨true,0⟩]⟩⟩]:=by
 refine⟨some ⟨a.heap.size+61,0,none⟩,2,rfl,Rh,.inr ⟨a.heap.size+61,0,rfl,iZ a 61 Wu,?_⟩⟩;intro c d b;match c,b with
 |0,b=>obtain rfl:=(inj b);exact⟨cm 61 0 rfl rfl,cm 61 1 rfl rfl,_,cm 61 2 rfl rfl,JZ a⟩
 |1,b=>obtain rfl:=(inj b);exact⟨cm 61 3 rfl rfl,cm 61 4 rfl rfl,_,cm 61 5 rfl rfl,J0 a⟩
 |n+2,b=>exact absurd b Rh
theorem JP(b:World):ck (fI b (ip b.heap.size)) (.slice (some ⟨b.heap.size+62,0,none⟩) 7 7) ca:=by
 refine⟨some ⟨b.heap.size+62,0,none⟩,7,rfl,by decide,.inr ⟨b.heap.size+62,0,rfl,iZ b 62 Wu,?_⟩⟩;intro c d a;match c,a with
 |0,a=>obtain rfl:=(inj a);exact⟨cm 62 0 rfl rfl,⟨_,cm 62 1 rfl rfl,JW b⟩,cm 62 2 rfl rfl,cm 62 3 rfl rfl,_,cm 62 4 rfl rfl,uh _⟩
 |1,a=>obtain rfl:=(inj a);exact⟨cm 62 5 rfl rfl,⟨_,cm 62 6 rfl rfl,J2 b⟩,cm 62 7 rfl rfl,cm 62 8 rfl rfl,_,cm 62 9 rfl rfl,uh _⟩
 |2,a=>obtain rfl:=(inj a);exact⟨cm 62 10 rfl rfl,⟨_,cm 62 11 rfl rfl,JQ b⟩,cm 62 12 rfl rfl,cm 62 13 rfl rfl,_,cm 62 14 rfl rfl,uh _⟩
 |3,a=>obtain rfl:=(inj a);exact⟨cm 62 15 rfl rfl,⟨_,cm 62 16 rfl rfl,JR b⟩,cm 62 17 rfl rfl,cm 62 18 rfl rfl,_,cm 62 19 rfl rfl,uh _⟩
 |4,a=>obtain rfl:=(inj a);exact⟨cm 62 20 rfl rfl,⟨_,cm 62 21 rfl rfl,JS b⟩,cm 62 22 rfl rfl,cm 62 23 rfl rfl,_,cm 62 24 rfl rfl,JF b⟩
 |5,a=>obtain rfl:=(inj a);exact⟨cm 62 25 rfl rfl,⟨_,cm 62 26 rfl rfl,JU b⟩,cm 62 27 rfl rfl,cm 62 28 rfl rfl,_,cm 62 29 rfl rfl,JG b⟩
 |6,a=>obtain rfl:=(inj a);exact⟨cm 62 30 rfl rfl,⟨_,cm 62 31 rfl rfl,JY b⟩,cm 62 32 rfl rfl,cm 62 33 rfl rfl,_,cm 62 34 rfl rfl,JH b⟩
 |n+7,a=>exact absurd a (by simp[ca])
theorem J3(n:Int)(a:World):Calls prog 58 #[n] a λe b=>e=.returned (.agg #[.bool true,n])/\b=a.alloc (.cells #[.bool true,n] 100):=by
 go_enter func58,ntmps58;go_wp2;exact bodyPost_ret (v:=.agg #[.bool true,n]) (by simp[results,results58,go_sem]) rfl ⟨rfl,rfl⟩
theorem JD(n:Int)(a:World):Calls prog 57 #[n] a λe b=>e=.returned (.agg #[.bool false,n])/\b=a.alloc (.cells #[.bool false,n] 100):=by
 go_enter func57,ntmps57;go_wp2;exact bodyPost_ret (v:=.agg #[.bool false,n]) (by simp[results,results57,go_sem]) rfl ⟨rfl,rfl⟩
theorem JB(p:Int)(a)(l b:Nat)(c:World):Calls prog 56 #[p,.slice a l b] c λe d=>e=.returned (.agg #[p,.slice a l b])/\d=c.alloc (.cells #[p,.slice a l b] 55):=by
 go_enter func56,ntmps56;go_wp2;exact bodyPost_ret (v:=.agg #[p,.slice a l b]) (by simp[results,results56,go_sem]) rfl ⟨rfl,rfl⟩
theorem JE(p:Int)(a)(l b:Nat)(c:World):Calls prog 59 #[.agg #[p,.slice a l b]] c λe d=>e=.returned (.agg #[.bool false,p,.slice a l b])/\d=(c.alloc (.cells #[p,.slice a l b] 55)).alloc (.cells #[.bool false,p,.slice a l b] 103):=by
 go_enter func59,ntmps59;go_wp2;exact bodyPost_ret (v:=.agg #[.bool false,p,.slice a l b]) (by simp[results,results59,go_sem]) rfl ⟨rfl,rfl⟩
theorem JK(p:Int)(a)(l b:Nat)(c:World):Calls prog 60 #[.agg #[p,.slice a l b]] c λe d=>e=.returned (.agg #[.bool true,p,.slice a l b])/\d=(c.alloc (.cells #[p,.slice a l b] 55)).alloc (.cells #[.bool true,p,.slice a l b] 103):=by
 go_enter func60,ntmps60;go_wp2;exact bodyPost_ret (v:=.agg #[.bool true,p,.slice a l b]) (by simp[results,results60,go_sem]) rfl ⟨rfl,rfl⟩
theorem JN(a:World):Calls prog 15 #[] a λe b=>e=.returned (.agg #[.slice (some ⟨a.heap.size+1,0,none⟩) 3 3,.slice (some ⟨a.heap.size+62,0,none⟩) 7 7])/\b=fI a (ip a.heap.size):=by
 go_enter func15,ntmps15
 go_wp2_with(first
  |(go_at_call 58;refine mq_ (J3 _ _) ?_)
  |(go_at_call 57;refine mq_ (JD _ _) ?_)
  |(go_at_call 56;refine mq_ (JB _ _ _ _ _) ?_)
  |(go_at_call 59;refine mq_ (JE _ _ _ _ _) ?_)
  |(go_at_call 60;refine mq_ (JK _ _ _ _ _) ?_))
 refine bodyPost_ret (v:=.agg #[.slice (some ⟨a.heap.size+1,0,none⟩) 3 3,.slice (some ⟨a.heap.size+62,0,none⟩) 7 7]) ?_ rfl ⟨rfl,?_⟩
 .simp[results,results15,go_sem]
 rfl
theorem JM(a:World):Calls prog 15 #[] a λe b=>∃d c:Nat,e=.returned (.agg #[.slice (some ⟨d,0,none⟩) 3 3,.slice (some ⟨c,0,none⟩) 7 7])/\ a.heap.size<=d/\d<c/\c<b.heap.size/\bR b (.slice (some ⟨d,0,none⟩) 3 3) b9/\ck b (.slice (some ⟨c,0,none⟩) 7 7) ca/\ (∀o,b.frozen? ⟨d,o,none⟩=false)/\(∀o,b.frozen? ⟨c,o,none⟩=false)/\(∃f,b.cell? ⟨c,34,none⟩=some (.slice (some ⟨f,0,none⟩) 2 2))/\Below a a b:=by
 refine mq_ (JN a) ?_;exact⟨_,_,rfl,Wu,Wu,iZ a 62 Wu,JL a,JP a,λo=>Cd 1 o rfl,λo=>Cd 62 o rfl,⟨_,cm 62 34 rfl rfl⟩,xk _ _⟩
