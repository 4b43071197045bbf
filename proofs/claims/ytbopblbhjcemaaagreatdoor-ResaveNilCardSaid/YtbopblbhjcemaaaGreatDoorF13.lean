
import Derived.Test.YtbopblbhjcemaaaGreatDoorF00
set_option maxHeartbeats 16000000
set_option maxRecDepth 100000
set_option linter.all false
namespace Go.Proofs.YtbopblbhjcemaaaGreatDoor.Grid
def far (W a b:Nat):Nat:=(a%W-b%W)+(b%W-a%W)+((a/W-b/W)+(b/W-a/W))
def upto (W t:Nat) (f:Int) (k:Nat):List Nat:=(List.range k).filter fun u=>decide ((far W t u:Int)≤f)
def nxt (W H t:Nat):List Nat:=
 (if 0<t/W then [t-W]else [])++(if t%W+1<W then [t+1]else [])++(if t/W+1<H then [t+W]else [])++(if 0<t%W then [t-1]else [])
open Go.ChangeShapes Go.WideShapes Go.ChangeAt Go.RowKit
theorem on_yes (W H x:Nat) (T:ByteArray) (w:World) (hW:4≤W) (hs:T.size≤5000) (hx:x<T.size):Calls Tryz.prog 153 #[.agg #[.int .i64 (W:Int),.int .i64 (H:Int),.string T],.int .i64 (x:Int)] w fun e w'=>e= .returned (.bool true)∧Ext w w':=by
 have z0:((W:Int)==0)=false:=zw12.2 (by omega);have z1:(0:Int)≤(x:Int):=by omega
 have z2:(x:Int)<(T.size:Int):=by omega
 go_enter Tryz.func153,Tryz.ntmps153;go_wp2_with fail;go_ret;exact⟨rfl,zxa (zxr _) _⟩
theorem on_no (W H:Nat) (x:Int) (T:ByteArray) (w:World) (hW:4≤W) (hs:T.size≤5000) (hx:x<0∨(T.size:Int)≤x):Calls Tryz.prog 153 #[.agg #[.int .i64 (W:Int),.int .i64 (H:Int),.string T],.int .i64 x] w fun e w'=>e= .returned (.bool false)∧Ext w w':=by
 have z0:((W:Int)==0)=false:=zw12.2 (by omega);by_cases h:x<0
 ·have z1:¬(0:Int)≤x:=by omega
  go_enter Tryz.func153,Tryz.ntmps153;go_wp2_with fail;go_ret;exact⟨rfl,zxa (zxr _) _⟩
 ·have z1:(0:Int)≤x:=by omega
  have z2:¬x<(T.size:Int):=by omega
  go_enter Tryz.func153,Tryz.ntmps153;go_wp2_with fail;go_ret;exact⟨rfl,zxa (zxr _) _⟩
theorem is_yes (W H x:Nat) (T:ByteArray) (w:World) (hW:4≤W) (hs:T.size≤5000) (hx:x<T.size):Calls Tryz.prog 142 #[.agg #[.int .i64 (W:Int),.int .i64 (H:Int),.string T],.int .i64 (x:Int)] w fun e w'=>e= .returned (.int .u8 (T[x].toNat:Int))∧Ext w w':=by
 have z1:(0:Int)≤(x:Int):=by omega
 have z2:(x:Int)<(T.size:Int):=by omega
 go_enter Tryz.func142,Tryz.ntmps142;go_wp2_with fail;refine(on_yes W H x T _ hW hs hx).mono ?_;rintro e w1 ⟨rfl,b1⟩;have hb:=(Blk.new w 199 #[.int .i64 (W:Int),.int .i64 (H:Int),.string T]).ext b1;have c2:=hb.cell 2;simp only[List.getElem?_toArray,List.getElem?_cons_succ,List.getElem?_cons_zero]at c2;have HE:=zh (zxt (zxa (zxr w) _) b1);clear hb b1;go_wp2_with fail;go_ret;exact⟨rfl,HE.out⟩
theorem is_no (W H:Nat) (x:Int) (T:ByteArray) (w:World) (hW:4≤W) (hs:T.size≤5000) (hx:x<0∨(T.size:Int)≤x):Calls Tryz.prog 142 #[.agg #[.int .i64 (W:Int),.int .i64 (H:Int),.string T],.int .i64 x] w fun e w'=>e= .returned (.int .u8 1)∧Ext w w':=by
 have HX:=zh hx;clear hx;go_enter Tryz.func142,Tryz.ntmps142;go_wp2_with fail;refine(on_no W H x T _ hW hs HX.out).mono ?_;rintro e w1 ⟨rfl,b1⟩;have HE:=zh (zxt (zxa (zxr w) _) b1);clear b1;go_wp2_with fail;go_ret;exact⟨rfl,HE.out⟩
theorem walk_yes (W H x:Nat) (T:ByteArray) (w:World) (hW:4≤W) (hs:T.size≤5000) (hx:x<T.size):Calls Tryz.prog 129 #[.agg #[.int .i64 (W:Int),.int .i64 (H:Int),.string T],.int .i64 (x:Int)] w fun e w'=>e= .returned (.bool (((T[x].toNat:Nat):Int)==0))∧Ext w w':=by
 go_enter Tryz.func129,Tryz.ntmps129;go_wp2_with fail;refine(is_yes W H x T _ hW hs hx).mono ?_;rintro e w1 ⟨rfl,b1⟩;have HE:=zh (zxt (zxa (zxr w) _) b1);clear b1;go_wp2_with fail;go_ret;exact⟨rfl,HE.out⟩
theorem walk_no (W H:Nat) (x:Int) (T:ByteArray) (w:World) (hW:4≤W) (hs:T.size≤5000) (hx:x<0∨(T.size:Int)≤x):Calls Tryz.prog 129 #[.agg #[.int .i64 (W:Int),.int .i64 (H:Int),.string T],.int .i64 x] w fun e w'=>e= .returned (.bool false)∧Ext w w':=by
 have HX:=zh hx;clear hx;go_enter Tryz.func129,Tryz.ntmps129;go_wp2_with fail;refine(is_no W H x T _ hW hs HX.out).mono ?_;rintro e w1 ⟨rfl,b1⟩;have HE:=zh (zxt (zxa (zxr w) _) b1);clear b1;go_wp2_with fail;go_ret;exact⟨rfl,HE.out⟩
theorem map_cells {w1:World} {g:Nat} {t:TypeId} {a b c:Value} (h:Blk w1 g t #[a,b,c]):w1.cell? ⟨g,0,none⟩=some a∧w1.cell? ⟨g,1,none⟩=some b∧w1.cell? ⟨g,2,none⟩=some c:=⟨h.cell 0,h.cell 1,h.cell 2⟩
def okm (w h:Int) (T:ByteArray):Prop:=4≤w∧w≤64∧4≤h∧h≤64∧(T.size:Int)=w*h∧∀i,(hi:i<T.size)→T[i].toNat≤2
instance (w h:Int) (T:ByteArray):Decidable (okm w h T):=by unfold okm;infer_instance
def mval (w h:Int) (T:ByteArray):Value:= .agg #[.int .i64 w,.int .i64 h,.string T]
def newR (w h:Int) (T:ByteArray):Value:=if okm w h T then .tuple #[mval w h T,.int .i64 0]else .tuple #[mval 0 0 ⟨#[]⟩,.int .i64 2]
def NewPost (w h:Int) (T:ByteArray) (W:World) (e:Ending) (W':World):Prop:=e= .returned (newR w h T)∧Ext W W'
def MayPost (w h:Int) (T:ByteArray) (W:World) (e:Ending) (W':World):Prop:=e= .returned (.bool (decide (okm w h T)))∧W=W'
def NwRel (W:World) (T:ByteArray) (iv:Value) (wr:World):Prop:=∃k:Nat,k≤T.size∧iv= .int .i64 (k:Int)∧(∀i,(hi:i<T.size)→i<k→T[i].toNat≤2)∧Blk wr W.heap.size 199 #[.int .i64 0,.int .i64 0,.string ⟨#[]⟩]∧Ext W wr
def MyRel (T:ByteArray) (iv:Value):Prop:=∃k:Nat,k≤T.size∧iv= .int .i64 (k:Int)∧(∀i,(hi:i<T.size)→i<k→T[i].toNat≤2)
theorem new_any (w h:Int) (T:ByteArray) (W:World) (hs:T.size≤5000) (hw1: -9223372036854775808≤w) (hw2:w≤9223372036854775807) (hh1: -9223372036854775808≤h) (hh2:h≤9223372036854775807):
  Calls Tryz.prog 128 #[.int .i64 w,.int .i64 h,.string T] W (NewPost w h T W):=by
 have HR:=zh (show newR w h T=newR w h T from rfl);by_cases hr:4≤w∧w≤64∧4≤h∧h≤64
 ·obtain⟨r1,r2,r3,r4⟩:=hr
  obtain⟨a,rfl⟩:∃a:Nat,w=(a:Int):=⟨w.toNat,by omega⟩;obtain⟨b,rfl⟩:∃b:Nat,h=(b:Int):=⟨h.toNat,by omega⟩;obtain⟨P,hP⟩:∃P,P=a*b:=⟨_,rfl⟩;have hP1:(a:Int)*(b:Int)=(P:Int):=by rw[hP];exact(Int.natCast_mul a b).symm
  have hP2:P≤64*64:=by rw[hP];exact Nat.mul_le_mul (by omega) (by omega)
  have z1:¬(a:Int)<4:=by omega
  have z2:¬(64:Int)<(a:Int):=by omega
  have z3:¬(b:Int)<4:=by omega
  have z4:¬(64:Int)<(b:Int):=by omega
  by_cases hsz:T.size=P
  ·have z5:(((T.size:Nat):Int) != (P:Int))=false:=by rw[hsz];simp
   have z6:(((T.size:Nat):Int)==(P:Int))=true:=by rw[hsz];simp
   have HOK:Hid ((∀i,(hi:i<T.size)→T[i].toNat≤2)↔okm (a:Int) (b:Int) T):=zh ⟨fun hall=>⟨r1,r2,r3,r4,by rw[hP1,hsz],hall⟩,fun ho=>ho.2.2.2.2.2⟩;clear hP;have HSZ:=zh hsz;clear hsz;have HP1:=zh hP1;go_enter Tryz.func128,Tryz.ntmps128;go_wp2_with fail
   go_loopw [34] (fun iv wr=>NwRel W T iv wr) (fun iv _=>T.size-(intOf iv).toNat)
   case atStart=>exact⟨0,Nat.zero_le _,rfl,fun i _ h=>by omega,Blk.new _ _ _,zxa (zxr _) _⟩
   case round=>
    obtain⟨k,hk,rfl,hall,hB,hE⟩:=hrel;have HALL:=zh hall;have HB:=zh hB;have HE:=zh hE;have hlt2:=hB.lt;obtain⟨c0,c1,c2⟩:=map_cells hB;have f0:=hB.frozen 0;have f1:=hB.frozen 1;have f2:=hB.frozen 2;clear hall hB hE;by_cases hlt:k<T.size
    ·have y0:(k:Int)<(T.size:Int):=by omega
     have y1:(0:Int)≤(k:Int):=by omega
     by_cases hbad:2<T[k].toNat
     ·have y2:(2:Int)<(T[k].toNat:Int):=by omega
      have HN:Hid (¬okm (a:Int) (b:Int) T):=zh (fun ho=>by have:=HOK.out.2 ho k hlt;omega);clear hbad;go_wp2_with fail;exact bodyPost_ret (v:= .tuple #[.agg #[.int .i64 0,.int .i64 0,.string ⟨#[]⟩],.int .i64 2]) (by simp[results,Tryz.results128,go_sem, *]) rfl ⟨by unfold newR;rw[if_neg HN.out];rfl,ext_set (ext_set (ext_set HE.out (zw8 _) _) (zw8 _) _) (zw8 _) _⟩
     ·have y2:¬(2:Int)<(T[k].toNat:Int):=by omega
      have HA2:Hid (∀i,(hi:i<T.size)→i<k+1→T[i].toNat≤2):=zh (fun i hi hik=>by
       by_cases e:i=k
       ·subst e;omega
       ·exact HALL.out i hi (by omega))
      clear hbad;go_wp2_with fail
      go_roundw
      case rel=>exact⟨k+1,by omega,by go_num,HA2.out,HB.out,HE.out⟩
      case measure=>simp[intOf];omega
    ·have y0:¬(k:Int)<(T.size:Int):=by omega
     have HN:Hid (okm (a:Int) (b:Int) T):=zh (HOK.out.1 (fun i hi=>HALL.out i hi (by omega)));go_wp2_with fail;exact bodyPost_ret (v:= .tuple #[.agg #[.int .i64 (a:Int),.int .i64 (b:Int),.string T],.int .i64 0]) (by simp[results,Tryz.results128,go_sem, *]) rfl ⟨by unfold newR;rw[if_pos HN.out];rfl,ext_set (ext_set (ext_set HE.out (zw8 _) _) (zw8 _) _) (zw8 _) _⟩
  ·have z5:(((T.size:Nat):Int) != (P:Int))=true:=by simp;omega
   have z6:(((T.size:Nat):Int)==(P:Int))=false:=zw12.2 (by omega);have HN:Hid (¬okm (a:Int) (b:Int) T):=zh (fun ho=>by have:=ho.2.2.2.2.1;rw[hP1]at this;omega);clear hP hsz;go_enter Tryz.func128,Tryz.ntmps128;go_wp2_with fail;exact bodyPost_ret (v:= .tuple #[.agg #[.int .i64 0,.int .i64 0,.string ⟨#[]⟩],.int .i64 2]) (by simp[results,Tryz.results128,go_sem]) rfl ⟨by unfold newR;rw[if_neg HN.out];rfl,zxa (zxr _) _⟩
 ·have HN:Hid (¬okm w h T):=zh (fun ho=>hr ⟨ho.1,ho.2.1,ho.2.2.1,ho.2.2.2.1⟩)
  by_cases r1:w<4
  ·clear hr
   go_enter Tryz.func128,Tryz.ntmps128;go_wp2_with fail;exact bodyPost_ret (v:= .tuple #[.agg #[.int .i64 0,.int .i64 0,.string ⟨#[]⟩],.int .i64 2]) (by simp[results,Tryz.results128,go_sem]) rfl ⟨by unfold newR;rw[if_neg HN.out];rfl,zxa (zxr _) _⟩
  ·by_cases r2:64<w
   ·clear hr
    go_enter Tryz.func128,Tryz.ntmps128;go_wp2_with fail;exact bodyPost_ret (v:= .tuple #[.agg #[.int .i64 0,.int .i64 0,.string ⟨#[]⟩],.int .i64 2]) (by simp[results,Tryz.results128,go_sem]) rfl ⟨by unfold newR;rw[if_neg HN.out];rfl,zxa (zxr _) _⟩
   ·by_cases r3:h<4
    ·clear hr
     go_enter Tryz.func128,Tryz.ntmps128;go_wp2_with fail;exact bodyPost_ret (v:= .tuple #[.agg #[.int .i64 0,.int .i64 0,.string ⟨#[]⟩],.int .i64 2]) (by simp[results,Tryz.results128,go_sem]) rfl ⟨by unfold newR;rw[if_neg HN.out];rfl,zxa (zxr _) _⟩
    ·have r4:64<h:=by omega
     clear hr;go_enter Tryz.func128,Tryz.ntmps128;go_wp2_with fail;exact bodyPost_ret (v:= .tuple #[.agg #[.int .i64 0,.int .i64 0,.string ⟨#[]⟩],.int .i64 2]) (by simp[results,Tryz.results128,go_sem]) rfl ⟨by unfold newR;rw[if_neg HN.out];rfl,zxa (zxr _) _⟩
end Go.Proofs.YtbopblbhjcemaaaGreatDoor.Grid
