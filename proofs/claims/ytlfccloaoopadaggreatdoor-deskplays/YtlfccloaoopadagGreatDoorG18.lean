import Derived.Shelf.Strings.Count
import Derived.Shelf.Strings.Split
import Derived.Shelf.Strings.Replace
import Derived.Lib.SmallJoins
import Derived.Lib.AppendIntMem
import Derived.Test.YtlfccloaoopadagGreatDoorG15
import Derived.Test.YtlfccloaoopadagGreatDoorG19
open Go.Proofs.Tryz
set_option maxRecDepth 100000
set_option maxHeartbeats 0
open Go.Lib (countB decDigits)
open Go.Proofs.Lays (n102 n138 n146 n155)
open Go.Shelf (Ren)
open Nat (le_refl)
namespace Go.Proofs.YtlfccloaoopadagGreatDoor
open Go.Shelf Go.RowKit
variable{p:Prop}
def Ot:Ren:=⟨fun|171=>85|243=>134|246=>188|283=>225|284=>226|285=>227|286=>228|129=>249|317=>248|318=>250|319=>251|320=>252|337=>272|338=>273|n=>n,fun|3=>3|9=>9|2=>2|4=>4|171=>275|0=>0|53=>276|37=>132|5=>5|173=>279|212=>307|51=>201|20=>20|213=>308|46=>160|232=>329|233=>330|n=>n,fun|17=>5|18=>6|19=>7|n=>n⟩
theorem Oq:Go.Proofs.LaysM.n171 prog Ot:={
 mixed:=QX
 f129:=func249.trans (congrArg some QX)
 f171:=func85.trans (congrArg some QX)
 f243:=func134.trans (congrArg some QX)
 f246:=func188.trans (congrArg some QX)
 f283:=func225.trans (congrArg some QX)
 f284:=func226.trans (congrArg some QX)
 f285:=func227.trans (congrArg some QX)
 f286:=func228.trans (congrArg some QX)
 f317:=func248.trans (congrArg some QX)
 f318:=func250.trans (congrArg some QX)
 f319:=func251.trans (congrArg some QX)
 f320:=func252.trans (congrArg some QX)
 f337:=func272.trans (congrArg some QX)
 f338:=func273.trans (congrArg some QX)
 t0:=underlying0
 a0:=isAgg0
 z0:=sizeOf0
 v0:=zeroValue0
 t2:=underlying2
 a2:=isAgg2
 z2:=sizeOf2
 v2:=zeroValue2
 t3:=underlying3
 a3:=isAgg3
 z3:=sizeOf3
 v3:=zeroValue3
 t4:=underlying4
 a4:=isAgg4
 z4:=sizeOf4
 v4:=zeroValue4
 t5:=underlying5
 a5:=isAgg5
 z5:=sizeOf5
 v5:=zeroValue5
 t9:=underlying9
 a9:=isAgg9
 z9:=sizeOf9
 v9:=zeroValue9
 t20:=underlying20
 a20:=isAgg20
 z20:=sizeOf20
 v20:=zeroValue20
 t37:=underlying132
 a37:=isAgg132
 z37:=sizeOf132
 v37:=zeroValue132
 t46:=underlying160
 a46:=isAgg160
 z46:=sizeOf160
 v46:=zeroValue160
 t51:=underlying201
 a51:=isAgg201
 z51:=sizeOf201
 v51:=zeroValue201
 t53:=underlying276
 a53:=isAgg276
 z53:=sizeOf276
 v53:=zeroValue276
 t171:=underlying275
 a171:=isAgg275
 z171:=sizeOf275
 v171:=zeroValue275
 t173:=underlying279
 a173:=isAgg279
 z173:=sizeOf279
 v173:=zeroValue279
 t212:=underlying307
 a212:=isAgg307
 z212:=sizeOf307
 v212:=zeroValue307
 t213:=underlying308
 a213:=isAgg308
 z213:=sizeOf308
 t232:=underlying329
 a232:=isAgg329
 z232:=sizeOf329
 v232:=zeroValue329
 t233:=underlying330
 a233:=isAgg330
 z233:=sizeOf330
 v233:=zeroValue330
 g17:=QX
 g18:=QX
 g19:=QX
 i0:=QX
 i2:=QX
 i3:=QX
 i4:=QX
 i5:=QX
 i9:=QX
 i20:=QX
 i37:=QX
 i46:=QX
 i51:=QX
 i53:=QX
 i171:=QX
 i173:=QX
 i212:=QX
 i232:=QX
 i233:=QX
 m17:=QX
 m18:=QX
 m19:=QX}
def Oj:Ren:=⟨fun|138=>8|195=>23|218=>24|143=>25|219=>69|217=>110|225=>111|224=>112|267=>113|266=>151|314=>152|n=>n,fun|9=>9|3=>3|4=>4|5=>5|0=>0|46=>160|146=>202|51=>201|n=>n,fun|1=>0|n=>n⟩
theorem Oi:n138 prog Oj:={
 mixed:=QX
 f138:=func8.trans (congrArg some QX)
 f143:=func25.trans (congrArg some QX)
 f195:=func23.trans (congrArg some QX)
 f217:=func110.trans (congrArg some QX)
 f218:=func24.trans (congrArg some QX)
 f219:=func69.trans (congrArg some QX)
 f224:=func112.trans (congrArg some QX)
 f225:=func111.trans (congrArg some QX)
 f266:=func151.trans (congrArg some QX)
 f267:=func113.trans (congrArg some QX)
 f314:=func152.trans (congrArg some QX)
 t0:=underlying0
 a0:=isAgg0
 z0:=sizeOf0
 v0:=zeroValue0
 t3:=underlying3
 a3:=isAgg3
 z3:=sizeOf3
 v3:=zeroValue3
 t4:=underlying4
 a4:=isAgg4
 z4:=sizeOf4
 v4:=zeroValue4
 t5:=underlying5
 a5:=isAgg5
 z5:=sizeOf5
 v5:=zeroValue5
 t9:=underlying9
 a9:=isAgg9
 z9:=sizeOf9
 v9:=zeroValue9
 t46:=underlying160
 a46:=isAgg160
 z46:=sizeOf160
 v46:=zeroValue160
 t51:=underlying201
 a51:=isAgg201
 z51:=sizeOf201
 v51:=zeroValue201
 t146:=underlying202
 a146:=isAgg202
 z146:=sizeOf202
 v146:=zeroValue202
 g1:=QX}
def Oy:Ren:=⟨fun|146=>9|221=>26|268=>70|138=>8|143=>25|195=>23|197=>114|218=>24|219=>69|260=>153|217=>110|225=>111|224=>112|267=>113|266=>151|314=>152|n=>n,fun|9=>9|31=>34|3=>3|4=>4|0=>0|105=>161|21=>21|5=>5|46=>160|119=>246|139=>249|138=>248|146=>202|51=>201|n=>n,fun|1=>0|3=>1|4=>2|n=>n⟩
theorem Ox:n146 prog Oy:={
 mixed:=QX
 f138:=func8.trans (congrArg some QX)
 f143:=func25.trans (congrArg some QX)
 f146:=func9.trans (congrArg some QX)
 f195:=func23.trans (congrArg some QX)
 f197:=func114.trans (congrArg some QX)
 f217:=func110.trans (congrArg some QX)
 f218:=func24.trans (congrArg some QX)
 f219:=func69.trans (congrArg some QX)
 f221:=func26.trans (congrArg some QX)
 f224:=func112.trans (congrArg some QX)
 f225:=func111.trans (congrArg some QX)
 f260:=func153.trans (congrArg some QX)
 f266:=func151.trans (congrArg some QX)
 f267:=func113.trans (congrArg some QX)
 f268:=func70.trans (congrArg some QX)
 f314:=func152.trans (congrArg some QX)
 t0:=underlying0
 a0:=isAgg0
 z0:=sizeOf0
 v0:=zeroValue0
 t3:=underlying3
 a3:=isAgg3
 z3:=sizeOf3
 v3:=zeroValue3
 t4:=underlying4
 a4:=isAgg4
 z4:=sizeOf4
 v4:=zeroValue4
 t5:=underlying5
 a5:=isAgg5
 z5:=sizeOf5
 v5:=zeroValue5
 t9:=underlying9
 a9:=isAgg9
 z9:=sizeOf9
 v9:=zeroValue9
 t21:=underlying21
 a21:=isAgg21
 z21:=sizeOf21
 v21:=zeroValue21
 t31:=underlying34
 a31:=isAgg34
 z31:=sizeOf34
 v31:=zeroValue34
 t46:=underlying160
 a46:=isAgg160
 z46:=sizeOf160
 v46:=zeroValue160
 t51:=underlying201
 a51:=isAgg201
 z51:=sizeOf201
 v51:=zeroValue201
 t105:=underlying161
 a105:=isAgg161
 z105:=sizeOf161
 v105:=zeroValue161
 t119:=underlying246
 a119:=isAgg246
 z119:=sizeOf246
 t138:=underlying248
 a138:=isAgg248
 z138:=sizeOf248
 v138:=zeroValue248
 t139:=underlying249
 a139:=isAgg249
 z139:=sizeOf249
 v139:=zeroValue249
 t146:=underlying202
 a146:=isAgg202
 z146:=sizeOf202
 v146:=zeroValue202
 g1:=QX
 g3:=QX
 g4:=QX}
def Ex:Ren:=⟨fun|155=>81|154=>131|138=>8|165=>135|143=>25|166=>136|197=>114|169=>137|195=>23|218=>24|240=>189|241=>190|219=>69|260=>153|276=>229|277=>230|217=>110|225=>111|224=>112|267=>113|266=>151|314=>152|n=>n,fun|9=>9|3=>3|4=>4|72=>188|0=>0|76=>154|105=>161|21=>21|5=>5|70=>186|20=>20|37=>132|75=>153|127=>239|164=>281|46=>160|119=>246|139=>249|138=>248|146=>202|51=>201|80=>109|n=>n,fun|1=>0|3=>1|4=>2|n=>n⟩
theorem Ow:n155 prog Ex:={
 mixed:=QX
 f138:=func8.trans (congrArg some QX)
 f143:=func25.trans (congrArg some QX)
 f154:=func131.trans (congrArg some QX)
 f155:=func81.trans (congrArg some QX)
 f165:=func135.trans (congrArg some QX)
 f166:=func136.trans (congrArg some QX)
 f169:=func137.trans (congrArg some QX)
 f195:=func23.trans (congrArg some QX)
 f197:=func114.trans (congrArg some QX)
 f217:=func110.trans (congrArg some QX)
 f218:=func24.trans (congrArg some QX)
 f219:=func69.trans (congrArg some QX)
 f224:=func112.trans (congrArg some QX)
 f225:=func111.trans (congrArg some QX)
 f240:=func189.trans (congrArg some QX)
 f241:=func190.trans (congrArg some QX)
 f260:=func153.trans (congrArg some QX)
 f266:=func151.trans (congrArg some QX)
 f267:=func113.trans (congrArg some QX)
 f276:=func229.trans (congrArg some QX)
 f277:=func230.trans (congrArg some QX)
 f314:=func152.trans (congrArg some QX)
 t0:=underlying0
 a0:=isAgg0
 z0:=sizeOf0
 v0:=zeroValue0
 t3:=underlying3
 a3:=isAgg3
 z3:=sizeOf3
 v3:=zeroValue3
 t4:=underlying4
 a4:=isAgg4
 z4:=sizeOf4
 v4:=zeroValue4
 t5:=underlying5
 a5:=isAgg5
 z5:=sizeOf5
 v5:=zeroValue5
 t9:=underlying9
 a9:=isAgg9
 z9:=sizeOf9
 v9:=zeroValue9
 t20:=underlying20
 a20:=isAgg20
 z20:=sizeOf20
 v20:=zeroValue20
 t21:=underlying21
 a21:=isAgg21
 z21:=sizeOf21
 v21:=zeroValue21
 t37:=underlying132
 a37:=isAgg132
 z37:=sizeOf132
 v37:=zeroValue132
 t46:=underlying160
 a46:=isAgg160
 z46:=sizeOf160
 v46:=zeroValue160
 t51:=underlying201
 a51:=isAgg201
 z51:=sizeOf201
 v51:=zeroValue201
 t70:=underlying186
 a70:=isAgg186
 z70:=sizeOf186
 v70:=zeroValue186
 t72:=underlying188
 a72:=isAgg188
 z72:=sizeOf188
 v72:=zeroValue188
 t75:=underlying153
 a75:=isAgg153
 z75:=sizeOf153
 v75:=zeroValue153
 t76:=underlying154
 a76:=isAgg154
 z76:=sizeOf154
 v76:=zeroValue154
 t105:=underlying161
 a105:=isAgg161
 z105:=sizeOf161
 v105:=zeroValue161
 t119:=underlying246
 a119:=isAgg246
 z119:=sizeOf246
 t127:=underlying239
 a127:=isAgg239
 z127:=sizeOf239
 v127:=zeroValue239
 t138:=underlying248
 a138:=isAgg248
 z138:=sizeOf248
 v138:=zeroValue248
 t139:=underlying249
 a139:=isAgg249
 z139:=sizeOf249
 v139:=zeroValue249
 t146:=underlying202
 a146:=isAgg202
 z146:=sizeOf202
 v146:=zeroValue202
 t164:=underlying281
 a164:=isAgg281
 z164:=sizeOf281
 v164:=zeroValue281
 g1:=QX
 g3:=QX
 g4:=QX}
def OA:Ren:=⟨fun|102=>82|209=>132|207=>183|n=>n,fun|9=>9|4=>4|3=>3|n=>n,fun|n=>n⟩
theorem Oz:n102 prog OA:={
 mixed:=QX
 f102:=func82.trans (congrArg some QX)
 f207:=func183.trans (congrArg some QX)
 f209:=func132.trans (congrArg some QX)
 t3:=underlying3
 a3:=isAgg3
 z3:=sizeOf3
 v3:=zeroValue3
 t4:=underlying4
 a4:=isAgg4
 z4:=sizeOf4
 v4:=zeroValue4
 t9:=underlying9
 a9:=isAgg9
 z9:=sizeOf9
 v9:=zeroValue9}
theorem NG:Builder.Extra prog Ex:={
 sizeBuilder:=QX
 liesBuilder:=QX
 t5:=underlying5
 a5:=isAgg5
 z5:=sizeOf5
 v5:=zeroValue5
 infoByte:=QX
 cellsByte:=QX
 sizeByte:=QX
 neB5:=QY}
structure aD (w:World):Prop where
 len:∃m,w.cell? ⟨0,0,none⟩=some (.int .i64 m)
 tab:Lib.TabIs prog w "internal/strconv.uint64pow10" .u64 Lib.pow10Tab
theorem aD.a{w w':World}(h:aD w)(hb:Below w w w'):aD w':=by
 obtain⟨m,hm⟩:=h.len
 have h0:0<w.heap.size:=by
  rcases Nat.eq_zero_or_pos w.heap.size with e|e
  .have:w.heap[0]? =none:=Array.getElem?_eq_none Q0;simp[World.cell?,this] at hm
  exact e
 exact⟨⟨m,(bF hb h0).trans hm⟩,Go.Joins.tab_stays (g:=(prog.globalNamed "internal/strconv.uint64pow10").getD 0) QX h.tab hb (le_refl _)⟩
def fj(n:Nat):ByteArray:=bN (decDigits n)
theorem Oa(n:Nat)(d:n<=9223372036854775807)(a:World)(c:aD a):Calls prog 85 #[n] a λe b=>e=.returned (.string (fj n))/\Below a a b:=by
 refine(Any.strconv_Itoa Oq n Q0 Q0 a c.tab).mono ?_;rintro e b ⟨rfl,f,g,rfl⟩;refine⟨?_,Go.Lib.below_grow _ _ (le_refl _) _ _⟩;unfold Lib.itoa;rw[if_neg Q0];rfl
theorem M5(s)(a:World):Calls prog 8 #[.string s,.string ⟨#[10]⟩] a λe b=>e=.returned (.int .i64 ((bG s).count 10:Nat))/\b=a:=Any.strings_Count_one Oi s 10 a
theorem PY(s)(d:s.size<4294967281)(a:World)(b:aD a):Calls prog 9 #[.string s,.string ⟨#[10]⟩] a λe g=>e=.returned (.slice (some ⟨a,0,none⟩) (countB s ⟨#[10]⟩+1) (countB s ⟨#[10]⟩+1))/\g=a.alloc (.cells ((Lib.splitB ⟨#[10]⟩ 0 (countB s ⟨#[10]⟩) s).map Value.string).toArray 9):=by
 obtain⟨f,c⟩:=b.len;exact Any.strings_Split Ox QX s ⟨#[10]⟩ f a d c QY
theorem P_(s p)(b:s.size<=9223372036854775807)(a:World):Calls prog 82 #[.string s,.string p] a λe c=>e=.returned (.string (bN (Lib.trimSuffix (bG s) (bG p))))/\c=a:=Any.strings_TrimSuffix Oz s p a b
theorem Px(s a b)(m:s.size<=100000)(d:1<=a.size)(g:b.size<=100)(c:World)(f:aD c):Calls prog 81 #[.string s,.string a,.string b] c λe j=>e=.returned (.string (bN (Lib.replaceAll (bG s) (bG a) (bG b))))/\Below c c j:=by
 obtain⟨i,h⟩:=f.len;have k:=Lib.countB_le a d s.size s (le_refl _);have l:countB s a*b.size<=100000*100:=Nat.mul_le_mul Q0 g;exact Any.strings_ReplaceAll Ow NG s a b i c Q0 h d Q0
open Go.ChangeShapes Go.WideShapes Go.ChangeAt
theorem ET(k:Nat)(a:k<10):bG (kQ (48+(k:Int)))=[UInt8.ofNat (48+k)]:=by
 have b:∀k:Fin 10,bG (kQ (48+(k.val:Int)))=[UInt8.ofNat (48+k.val)]:=QY;exact b ⟨k,a⟩
theorem Ed{n:Nat}(a:n<10):kQ (48+(n:Int)%10)=fj n:=kj (by
 rw[show(n:Int)%10=(n:Int) by omega,ET n a,fj,de,decDigits,dif_pos a])
theorem M_{n}(a:¬n<10):fj (n/10)++kQ (48+(n:Int)%10)=fj n:=kj (by
 rw[d_,show(n:Int)%10=((n%10:Nat):Int) by omega,ET _ Q0,fj,fj,de,de,Lib.decDigits.eq_1 n,dif_neg a])
theorem Nb:∀(k n:Nat),n<10^(k+1)->(fj n).size<=k+1:=by
 intro k;induction k with
 |zero=>intro n a;rw[fj,du,decDigits,dif_pos Q0];simp
 |succ k ih=>
  intro n a;rw[fj,du,decDigits];split
  .simp
  have:=ih (n/10) (by rw[Nat.pow_succ] at a;omega);rw[fj,du] at this;rw[List.length_append,List.length_singleton];omega
theorem sw{n}(a:n<=9223372036854775807):(fj n).size<=19:=Nb 18 n (Nat.lt_of_le_of_lt a QY)
theorem Nu:∀(k n:Nat),n<=k->n<=9223372036854775807->∀a:World,Calls prog 41 #[n] a λe g=>e=.returned (.string (fj n))/\Below a a g:=by
 intro k;induction k with
 |zero=>
  intro n d _ a;obtain rfl:n=0:=Q0;rw[<-Ed Q0];exact ve a _ Q0 Q0
 |succ k ih=>
  intro n d o a;by_cases b:n<10
  .rw[<-Ed b];exact ve a _ Q0 Q0
  have f:=sn a (48+(n:Int)%10);have c:=ih (n/10) Q0 Q0 (a.alloc (.cells #[.int .u8 (48+(n:Int)%10)] 5));have q:=sw (n:=n/10) Q0;have p:=qF (48+(n:Int)%10);rw[<-M_ b];rw[show((n/10:Nat):Int)=(n:Int)/10 by omega] at c;have m:¬(n:Int)<10:=Q0;have l:(0:Int)<=(n:Int):=Q0;generalize fj (n/10)=h at*;generalize kQ (48+(n:Int)%10)=i at*;clear ih d b;go_enter func41,ntmps41;go_wp2_with fail;refine mo_ c λj hb1=>?_;clear c f;exact aa9
theorem vd(a:World)(n:Nat)(b:n<=9223372036854775807):Calls prog 41 #[n] a λe c=>e=.returned (.string (fj n))/\Below a a c:=Nu n n (le_refl _) b a
def kO(l:List Nat):Nat->ByteArray
 |0=>⟨#[]⟩
 |k+1=>(if 0<k then kO l k++⟨#[32]⟩ else kO l k)++fj (l.getD k 0)
theorem ad4(h:p:=by
 have:=congrArg List.length e
 rw[List.length_map,List.length_take,List.length_nil] at this
 omega):p:=h
theorem EB(l):∀k,k<=l.length->bG (kO l k)=[32].intercalate ((l.take k).map decDigits)
 |0,_=>rfl
 |k+1,c=>by
  have ih:=EB l k Q0
  have e:l.take (k+1)=l.take k++[l.getD k 0]:=by
   rw[List.take_add_one,List.getElem?_eq_getElem Q0,List.getD_eq_getElem?_getD,List.getElem?_eq_getElem Q0]
   rfl
  rw[e,List.map_append,List.map_cons,List.map_nil,yt,kO,d_,fj,de]
  by_cases a:0<k
  .have b:(l.take k).map decDigits≠[]:=λe=>by
    exact ad4
   rw[if_pos a,d_,ih,if_neg b]
   rfl
  obtain rfl:k=0:=Q0
  rfl
theorem EC{l}(a:∀n∈l,n<=9223372036854775807):∀k,(kO l k).size<=k*20
 |0=>le_refl _
 |k+1=>by
  have ih:=EC a k
  have c:(fj (l.getD k 0)).size<=19:=by
   refine sw ?_
   rw[List.getD_eq_getElem?_getD]
   by_cases b:k<l.length
   .rw[List.getElem?_eq_getElem b]
    exact a _ (List.getElem_mem b)
   rw[List.getElem?_eq_none Q0]
   simp
  rw[kO,ByteArray.size_append]
  split
  .rw[ByteArray.size_append,show(⟨#[32]⟩:ByteArray).size=1 from rfl]
   omega
  omega
theorem yu(c:World)(p l)(m:dD c p l)(F:l.length<=1000)(b:∀n∈l,n<=9223372036854775807):Calls prog 43 #[p] c λe D=>e=.returned (.string (bN (fp l)))/\Below c c D:=by
 have u:=li_ m;have v:=hid_ (EC b);have q:=hid_ b
 have t:Hid (kO l l.length=bN (fp l)):=by
  refine kj ?_;rw[EB l _ (le_refl _),de,List.take_length];rfl
 obtain⟨x,z,rfl,_⟩:=m;clear b;go_enter func43,ntmps43;go_wp2_with fail;go_loopw [3,4] (λC h wr=>∃a:Nat,a<=l.length/\h=.int .i64 a/\C=.string (kO l a)/\Below c c wr) (λ_ h _=>l.length-(intOf h).toNat)
 case atStart=>exact⟨0,Nat.zero_le _,rfl,rfl,Below.refl _ _⟩
 obtain⟨a,G,rfl,rfl,f⟩:=hrel;by_cases g:a<l.length
 .obtain⟨y,B,A,hv,J,o⟩:=cN (u wr f) g;obtain⟨rfl,rfl⟩:x=some ⟨y,B,none⟩/\z=A:=RX;have I:(a:Int)<(l.length:Int):=Q0;have H:(0:Int)<=(a:Int):=Q0;unfold tZ at o;rw[Nat.mul_one] at o;have b:=q _ (List.getElem_mem g);have s:=vd wr l[a] b;have K:=v a;have L:=sw b
  have i:Hid (kO l (a+1)=(if 0<a then kO l a++⟨#[32]⟩ else kO l a)++fj l[a]):=by
   show _=_;rw[kO,List.getD_eq_getElem?_getD,List.getElem?_eq_getElem g];rfl
  have d:=bK f;clear hv f b;generalize kO l a=E at*;generalize l[a]=N at*;by_cases j:0<a
  all_goals
   have w:=j;rw[<-Int.ofNat_lt] at w;go_wp2_with(go_at_call 41;refine mo_ s λM k=>?_;have r:=bK (d.out.trans (k.mono d.out.size));clear k);go_roundw
   case rel=>exact⟨a+1,Q0,Rv,by simp only[j,if_true,if_false] at i;rw[i.out],r.out⟩
   simp[intOf];omega
 obtain rfl:a=l.length:=Q0;rw[t.out];have d:=bK f;go_wp2_with fail;go_ret;exact⟨rfl,d.out⟩
theorem Mw{s:List UInt8}{a:Nat}(b:a<s.length):(s.take (a+1)).all ee=((s.take a).all ee&&ee s[a]):=by
 rw[List.take_add_one,List.getElem?_eq_getElem b,Option.toList_some,List.all_append,List.all_cons,List.all_nil,Bool.and_true]
theorem Mx{s:List UInt8}{a:Nat}(d:a<s.length)(b:ee s[a]=false):s.all ee=false:=by
 rw[Bool.eq_false_iff];intro c;have:=List.all_eq_true.1 c _ (List.getElem_mem d);rw[b] at this;cases this
theorem Tq(h:p:=by rw[bne,heq];rfl):p:=h
theorem aff(h:p:=by
 generalize fj m=D at*
 clear hsm
 go_wp2_with(first|(go_at_call 36;refine mo_ (HS _) λw2 hw2=>?_;obtain rfl:=hw2.symm;clear hw2)|(go_at_call 41;refine mo_ HD λw3 hb3=>?_;have HB3:=bK hb3;clear hb3))
 go_ret
 exact⟨eJ HE.out.symm,HB3.out⟩):p:=h
theorem aax(h:p:=by
 go_wp2_with fail
 go_ret
 exact⟨eJ HE.out.symm,Below.refl _ _⟩):p:=h
theorem OO(d:World)(s)(y:s.size<=100000):Calls prog 51 #[.string s] d λe A=>e=.returned (.int .i64 (kP (bG s)))/\Below d d A:=by
 have c:=et (s.size:Int) 1 6 d;by_cases l:1<=s.size/\s.size<=6
 .rw[show bQ (s.size:Int) 1 6=true by simp[bQ];omega] at c;have HS:=hid_ (λC=>oI C s y);go_enter func51,ntmps51;go_wp2_with fail;refine mo_ c λB g=>?_;obtain rfl:=g.symm;clear c;go_wp2_with fail;clear g;go_loop [3] (λq=>∃a:Nat,a<=s.size/\q=.int .i64 a/\Hid (((bG s).take a).all ee=true)) (λq=>s.size-(intOf q).toNat)
  case atStart=>exact⟨0,Nat.zero_le _,rfl,rfl⟩
  obtain⟨a,H,rfl,n⟩:=hrel;by_cases hlt:a<s.size
  .have J:(a:Int)<(s.size:Int):=Q0;have I:(0:Int)<=(a:Int):=Q0;have o:a<(bG s).length:=SY;have r:=bK (Mw o)
   have k:Hid (ee (bG s)[a]=false->kP (bG s)= -1):=λb=>by
    rw[kP,if_neg];rw[Mx o b];exact λb=>absurd b.2.1 Q1
   rw[lP hlt] at r k;clear o;have i:Hid (ee s[a]=(decide (48<=s[a].toNat)&&decide (s[a].toNat<=57))):=rfl;by_cases F:(s[a].toNat:Int)<48
   .have HE:=hid_ (k (by rw[i.out,decide_eq_false Q0];rfl));exact aax
   by_cases G:(57:Int)<(s[a].toNat:Int)
   .have HE:=hid_ (k (by rw[i.out,decide_eq_false (p:=s[a].toNat<=57) Q0,Bool.and_false]));exact aax
   have HE:Hid (((bG s).take (a+1)).all ee=true):=by
    show _=_;rw[r.out,n.out,i.out,decide_eq_true Q0,decide_eq_true Q0];rfl
   go_wp2_with fail;go_round
   case rel=>exact⟨a+1,Q0,Rv,HE⟩
   exact S6
  have h:Hid ((bG s).all ee=true):=by
   have:=n.out;rw[show a=(bG s).length by rw[cD];omega,List.take_length] at this;exact this
  have j:Hid (0<=dE (bG s)/\dE (bG s)<=9223372036854775807):=by
   obtain⟨v,E⟩:=yL (bG s) 0 h Q0
   have:(10:Int)^(bG s).length<=1000000:=by
    have w:∀z:Fin 7,(10:Int)^z.val<=1000000:=QY;exact w ⟨(bG s).length,SZ⟩
   unfold dE;rw[cD,if_pos l];exact⟨v,Q0⟩
  have f:Hid (kP (bG s)=if decDigits (dE (bG s)).toNat=bG s then dE (bG s) else-1):=by
   show _=_;unfold kP;rw[cD,h.out];by_cases b:decDigits (dE (bG s)).toNat=bG s
   .rw[if_pos ⟨l,rfl,b⟩,if_pos b]
   rw[if_neg (λu=>b u.2.2),if_neg b]
  obtain⟨m,t⟩:∃m:Nat,dE (bG s)=(m:Int):=⟨(dE (bG s)).toNat,by have:=j.out.1;omega⟩;have HD:=vd d m (by have:=j.out.2;omega);have heq:=nM (fj m) s;rw[show bG (fj m)=decDigits m from de _] at heq;rw[t] at HS f;rw[Int.toNat_natCast] at f;clear t j h n;by_cases hsm:decDigits m=bG s
  .rw[decide_eq_true hsm] at heq;have x:((fj m).toList != s.toList)=false:=Tq;have HE:Hid (kP (bG s)=(m:Int)):=by show _=_;rw[f.out,if_pos hsm]
   exact aff
  rw[decide_eq_false hsm] at heq;have x:((fj m).toList != s.toList)=true:=Tq;have HE:Hid (kP (bG s)= -1):=by show _=_;rw[f.out,if_neg hsm]
  exact aff
 have HE:Hid (kP (bG s)= -1):=by
  show _=_;rw[kP,if_neg];rw[cD];exact λb=>l b.1
 rw[show bQ (s.size:Int) 1 6=false by simp[bQ];omega] at c;go_enter func51,ntmps51;go_wp2_with fail;refine mo_ c λB g=>?_;obtain rfl:=g.symm;exact aax
