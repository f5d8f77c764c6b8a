import Derived.Laws.BytesArg
import Derived.Test.YtlfccloaoopadagGreatDoorG4
import Derived.Test.YtlfccloaoopadagGreatDoorG6
open Go.Proofs.Tryz
set_option maxRecDepth 100000
set_option maxHeartbeats 0
namespace Go.Proofs.YtlfccloaoopadagGreatDoor
open Go.ChangeShapes Go.WideShapes Go.ChangeAt Go.RowKit
variable{p:Prop}
def kQ(m:Int):ByteArray:=strOfNums [m]
theorem sn(b:World)(a):(convert 132 9 (.slice (some ⟨b,0,none⟩) 1 1)).run prog (b.alloc (.cells #[.int .u8 a] 5))=.ok (.string (kQ a)) (b.alloc (.cells #[.int .u8 a] 5)):=
 run_convert_bytes_arg (b.alloc (.cells #[.int .u8 a] 5)) 132 5 underlying132 underlying5 b 0 1 1 [a] rfl (λc d=>by
  obtain rfl:c=0:=Q0
  simp[go_sem]) 9 underlying9
theorem ve(a:World)(n:Int)(c:0<=n)(f:n<=9):Calls prog 41 #[n] a λe b=>e=.returned (.string (kQ (48+n%10)))/\Below a a b:=by
 have d:n<10:=Q0;have g:=sn a (48+n%10);go_enter func41,ntmps41;go_wp2_with fail;go_ret;exact⟨rfl,bH _ _⟩
def b_(n:Int):ByteArray:=if n<10 then kQ (48+n%10) else kQ (48+n/10%10)++kQ (48+n%10)
theorem aa9(h:p:=by
 go_wp2_with fail
 go_ret
 exact⟨rfl,(bH _ _).trans (hb1.mono (bH _ _).size)⟩):p:=h
theorem ph(a:World)(n:Int)(c:0<=n)(h:n<=99):Calls prog 41 #[n] a λe f=>e=.returned (.string (b_ n))/\Below a a f:=by
 by_cases b:n<10
 .rw[b_,if_pos b];exact ve a n c Q0
 rw[b_,if_neg b];have i:=sn a (48+n%10);have d:=ve (a.alloc (.cells #[.int .u8 (48+n%10)] 5)) (n/10) Q0 Q0;go_enter func41,ntmps41;go_wp2_with fail;refine mo_ d λg hb1=>?_;exact aa9
theorem qF(a):(kQ a).size=1:=by
 unfold kQ strOfNums;rfl
theorem gF(n):(b_ n).size<=2:=by
 unfold b_;split
 .rw[qF];omega
 rw[ByteArray.size_append,qF,qF];omega
