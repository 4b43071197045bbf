
import Derived.Test.YtbopblbhjcemaaaGreatDoorF02
set_option maxHeartbeats 16000000
set_option maxRecDepth 100000
set_option linter.all false
open Go.ChangeShapes Go.WideShapes Go.ChangeAt Go.RowKit
namespace Go.Proofs.YtbopblbhjcemaaaGreatDoor.Wire
section
variable {P : Program} {w : World}
def Grew (w w':World) (v v':Value):Prop:=w.grownBy w' v.ownBlock∧(v'.ownBlock=v.ownBlock∨∀k,v'.ownBlock=some k→w.heap.size≤k)
def Off (v:Value) (b:Nat):Prop:=v.ownBlock≠some b
theorem Grew.off {w w':World} {v v':Value} {b:Nat} (h:Grew w w' v v') (ho:Off v b) (hb:b<w.heap.size):Off v' b:=by
 rcases h.2 with h1 | h1
 ·unfold Off;rw[h1];exact ho
 ·intro e;have:=h1 b e;omega
theorem Grew.blk {w w':World} {v v':Value} {b:Nat} {t:TypeId} {cs:Array Value} (h:Grew w w' v v') (ho:Off v b) (hb:Blk w b t cs):Blk w' b t cs:=(h.1.block b hb.lt (Ne.symm ho)).trans hb
theorem off_new {base:Nat} {e:TypeId} {size n:Nat} {v:Value} {xs:List Value} (h:w.ownsRow base e size v n xs) {b:Nat} (hb:w.heap.size≤b∨b<base):Off v b:=by
 intro e;have:=zw23 h b e;omega
theorem run_app_own2 (t tx ty e:TypeId) (i:TypeInfo) (z:Value) (size bytes:Nat) (ht:P.underlying t=some (.slice e)) (hi:P.info? e=some i) (hz:i.zero=some z) (hsize:i.size=size) (hby:i.bytes=bytes) (hzs:z.cells.size=size)
  (base:Nat) (v:Value) (n:Nat) (xs:List Value) (hown:w.ownsRow base e size v n xs)
  (x:Value) (m:Nat) (news:List Value) (hs:Src P size tx x m news w) (h63:n+m≤maxLen) (hb:(n+m)*bytes≤140737488355328) (hbase:base≤w.heap.size):
  ∃v' w',(Builtin.append_ #[t,tx] ty #[v,x]).run P w= .ok v' w'∧w'.ownsRow base e size v' (n+m) (xs++news)∧Grew w w' v v':=by
 rcases hown.2 with ⟨rfl,rfl⟩ | ⟨g,cap,cur,rfl,hbg,hgg,hnc,hcm,hcs,htake⟩
 ·by_cases hm:m=0
  ·subst hm
   have hn:news=[]:=zw19 (by simpa using hs.newsLen);have hx:xs=[]:=zw19 (by simpa using hown.1);subst hn hx;refine⟨.slice none 0 0,w,?_,World.ownsRow_nil w base e size,⟨rfl,rfl,rfl,zw8 _,fun _ _ _=>rfl⟩,.inl rfl⟩;subst hsize;rcases hs.kind with ⟨e',hk⟩ | hk<;>simp[Builtin.append_,run_underlying ht,run_underlying hk,sizeOf,typeInfo,hi,hs.len,hs.cells]
  ·obtain⟨v',w',h1,h2,h3,h4⟩:=run_app_grow t tx ty e i z size bytes ht hi hz hsize hby hzs none 0 0 xs hown.1 (run_firstCells_own hown) x m news hs (by omega) h63 hb base hbase
   exact⟨v',w',h1,h2,h4 _,.inr (own_ge h3)⟩
 ·by_cases hroom:n+m≤cap
  ·subst hsize
   have hfit:n*i.size+news.length≤cur.size:=by rw[hs.newsLen,hcs,←Nat.add_mul];exact zw34 _ hroom
   have hlen:(xs++news).length=(n+m)*i.size:=by rw[zw0,hown.1,hs.newsLen,Nat.add_mul]
   have hst:=run_storeCells_at P g (n*i.size) e news 0 cur w hgg (by simpa using hfit) hs.one;simp only[Nat.add_zero]at hst;have hr:(Builtin.append_ #[t,tx] ty #[.slice (some ⟨g,0,none⟩) n cap,x]).run P w=
     .ok (.slice (some ⟨g,0,none⟩) (n+m) cap) (w.setRow g (cur.toList.take (n*i.size)++news++cur.toList.drop (n*i.size+news.length)).toArray):=by
    rcases hs.kind with ⟨e',hk⟩ | hk<;>simp[Builtin.append_,run_underlying ht,run_underlying hk,sizeOf,typeInfo,hi,hs.len,hroom,hs.cells,Addr.add_lit,hst]
   refine⟨_,_,hr,⟨hlen,.inr ⟨g,cap,_,rfl,hbg,setRow_heap w g cur _ e _ hgg,hroom,hcm,?_,?_⟩⟩,⟨rfl,rfl,rfl,by simp,fun k _ hk=>setRow_other w g k _ (fun e=>hk (by simp[Value.ownBlock,e]))⟩,.inl rfl⟩
   ·simp only[List.size_toArray,zw0,zw2,zw1,Array.length_toList]
    omega
   ·rw[htake,←hlen]
    exact List.take_left
  ·obtain⟨v',w',h1,h2,h3,h4⟩:=run_app_grow t tx ty e i z size bytes ht hi hz hsize hby hzs _ n cap xs hown.1 (run_firstCells_own hown) x m news hs (by omega) h63 hb base hbase
   exact⟨v',w',h1,h2,h4 _,.inr (own_ge h3)⟩
end
def OwnB (base:Nat) (w:World) (v:Value) (zs:List Nat):Prop:=w.ownsRow base 5 1 v zs.length (c8 zs)
theorem OwnB.nil (base:Nat) (w:World):OwnB base w (.slice none 0 0) []:=World.ownsRow_nil w base 5 1
theorem OwnB.ext {base:Nat} {w w':World} {v:Value} {zs:List Nat} (h:OwnB base w v zs) (hE:Ext w w'):OwnB base w' v zs:=own_ext h hE
theorem OwnB.mono {b b':Nat} {w:World} {v:Value} {zs:List Nat} (h:OwnB b w v zs) (hb:b'≤b):OwnB b' w v zs:=by
 rcases h with ⟨h1,h2 | ⟨g,cap,cur,r1,r2,r3⟩⟩
 ·exact⟨h1,.inl h2⟩
 ·exact⟨h1,.inr ⟨g,cap,cur,r1,zw10 hb r2,r3⟩⟩
theorem OwnB.shape {base:Nat} {w:World} {v:Value} {zs:List Nat} (h:OwnB base w v zs):∃A c,v= .slice A zs.length c∧zs.length≤c∧c≤maxLen∧(A=none→zs.length=0∧c=0)∧(∀a,A=some a→base≤a.block):=by
 rcases h.2 with ⟨rfl,hn⟩ | ⟨g,cap,cur,rfl,hb,_,h1,h2,_⟩
 ·exact⟨none,0,by rw[hn],by omega,by unfold maxLen;omega,(fun _=>⟨hn,rfl⟩),(fun a ha=>by cases ha)⟩
 ·exact⟨_,cap,rfl,h1,h2,(fun ha=>by cases ha),(fun a ha=>by cases ha;exact hb)⟩
theorem OwnB.bs {base:Nat} {w:World} {A:Option Addr} {c n:Nat} {zs:List Nat} (h:OwnB base w (.slice A n c) zs) (hz:∀j,zs.getD j 0<256):n=zs.length∧Bs w A n zs:=by
 have hn:n=zs.length:=by
  rcases h.2 with ⟨h1,hn⟩ | ⟨g,cap,cur,h1,_⟩
  ·rw[(Value.slice.inj h1).2.1,hn]
  ·exact(Value.slice.inj h1).2.1
 subst hn;exact⟨rfl,Bs.own h hz⟩
theorem wpList_b {base:Nat} {w:World} {ops:Array Oper} {rest:List Oper} {o:Oper} {a:Act} {Q:Exit→Act→World→Prop} (hgd:o.guard=none) (s x:Operand) (tx:TypeId)
  (ho:o.op= .call {callee:= .builtin .append,args:= #[s,x],argTypes:= #[22,tx]}) (v vx:Value) (zs ys:List Nat) (hs:a.eval s=v) (hx:a.eval x=vx) (hO:OwnB base w v zs) (hE:base≤w.heap.size)
  (hsrc:Src Tryz.prog 1 tx vx ys.length (c8 ys) w) (hb:zs.length+ys.length≤140737488355328)
  (h:∀v' w',OwnB base w' v' (zs++ys)→Grew w w' v v'→wpList Tryz.prog ops Q rest (a.put o.dst v') w'):wpList Tryz.prog ops Q (o::rest) a w:=by
 obtain⟨i0,hi0,hz0,hz1,hz2⟩:=info_parts info8;have h1:zs.length+ys.length≤maxLen:=by unfold maxLen;omega
 obtain⟨v',w',r1,r2,r3⟩:=run_app_own2 (P:=Tryz.prog) 22 tx o.type 5 i0 (.int .u8 0) 1 1 Tryz.underlying22 hi0 hz0 hz1 hz2 rfl base v zs.length (c8 zs) hO vx ys.length (c8 ys) hsrc h1 (by omega) hE;exact wpList_of_append hgd s x 22 tx ho v vx hs hx r1 (h v' w' (by unfold OwnB;rw[zw0,c8_app];exact r2) r3)
theorem Grew.ext {a w w':World} {v v':Value} {base:Nat} {zs:List Nat} (h:Grew w w' v v') (hE:Ext a w) (hO:OwnB base w v zs) (hb:a.heap.size≤base):Ext a w':=
 ext_grown hE h.1 (fun k e=>zw10 hb (zw23 hO k e).1)
theorem own_src {W w:World} {v:Value} {zs:List Nat} (h:Own W w v zs) (hz:∀j,zs.getD j 0<256):Src Tryz.prog 1 22 v zs.length (c8 zs) w:=by
 obtain⟨A,c,rfl,_⟩:=own_shape h;exact(Bs.own h hz).src Tryz.underlying22 c
theorem put_nil (d:Nat) (hd:d<18446744073709551616) (w:World):Calls Tryz.prog 53 #[.slice none 0 0,.int .u64 (d:Int)] w fun e w'=>∃v,e= .returned v∧Src Tryz.prog 1 22 v (vb d).length (c8 (vb d)) w'∧OwnB w.heap.size w' v (vb d)∧Ext w w':=by
 refine(put none 0 0 [] d hd w (Bs.none _ _) (fun _=>⟨rfl,rfl⟩) (by omega) (by omega) (by omega)).mono ?_;rintro e w' ⟨g,c,rfl,h1,h2,h3,hO,hE⟩;rw[zw17]at*;exact⟨_,rfl,own_src hO (vb_byte d),hO,hE⟩
theorem refFixed (m:Nat) (h:m<4294967296) (w:World):Calls Tryz.prog 111 #[.int .u32 (m:Int)] w fun e w'=>e= .returned (.string (strOf (fx m)))∧Ext w w':=by
 have e:((fx m).map fun x=>Value.int .u8 (x:Nat)).toArray= #[.int .u8 ((m:Int)/16777216),.int .u8 ((m:Int)/65536%256),.int .u8 ((m:Int)/256%256),.int .u8 ((m:Int)%256)]:=by simp[fx]
 have hB:=bs_new w 5 (0,0) (fx m) (small_mem (fx_mem h));rw[e]at hB;have hcv:=hB.conv (P:=Tryz.prog) 22 5 9 Tryz.underlying22 Tryz.underlying5 Tryz.underlying9 4;rw[show(fx m).length=4 from rfl]at hcv;clear e hB;generalize strOf (fx m)=S at*;go_enter Tryz.func111,Tryz.ntmps111;go_wp2_with fail;go_ret;exact⟨rfl,zxa (zxr _) _⟩
theorem one_conv (B:Nat) (w:World) (x:Nat) (hx:x<256) (h:w.cell? ⟨B,0,none⟩=some (.int .u8 (x:Int))):(convert 22 9 (.slice (some ⟨B,0,none⟩) 1 1)).run Tryz.prog w= .ok (.string (strOf [x])) w:=by
 have hB:Bs w (some ⟨B,0,none⟩) 1 [x]:=⟨rfl,small_mem (fun c hc=>by simp at hc;omega),fun _=>⟨B,0,rfl,World.block_lt_of_cell? w _ h,fun j hj=>by
  obtain rfl:j=0:=by omega
  simpa using h⟩⟩
 exact hB.conv (P:=Tryz.prog) 22 5 9 Tryz.underlying22 Tryz.underlying5 Tryz.underlying9 1
theorem refVarint (n:Nat):∀(h:n<18446744073709551616) (w:World),Calls Tryz.prog 110 #[.int .u64 (n:Int)] w fun e w'=>e= .returned (.string (strOf (vb n)))∧Ext w w':=by
 induction n using Nat.strongRecOn with
 | _ n ih=>
  intro h w;by_cases hlt:n<128
  ·rw[vb_small hlt]
   have hcv:=one_conv w.heap.size (w.alloc (.cells #[.int .u8 (n:Int)] 5)) n (by omega) (by simp);generalize strOf [n]=S at*;clear ih h;go_enter Tryz.func110,Tryz.ntmps110;go_wp2_with fail;go_ret;exact⟨rfl,zxa (zxr _) _⟩
  ·have HIH:=zh (fun w=>ih (n/128) (by omega) (by omega) w)
   have HV:Hid (strOf (vb n)=strOf [n%128+128]++strOf (vb (n/128))):=zh (by rw[vb_more hlt,←strOf_app];rfl);have hdi:(n:Int)/128=((n/128:Nat):Int):=by omega
   obtain⟨y,hy⟩:∃y,y=n%128+128:=⟨_,rfl⟩;obtain⟨r,hr⟩:∃r,r=n%128:=⟨_,rfl⟩;have hcv:∀(B:Nat) (w':World),w'.cell? ⟨B,0,none⟩=some (.int .u8 (y:Int))→(convert 22 9 (.slice (some ⟨B,0,none⟩) 1 1)).run Tryz.prog w'= .ok (.string (strOf [y])) w':=fun B w' hc=>one_conv B w' y (by omega) hc;have ht:(n:Int).tmod 128=(r:Int):=by rw[Int.tmod_eq_emod_of_nonneg (by omega)];omega
   have hw1:IntKind.u64.wrap ((r:Int)+128)=(y:Int):=by rw[IntKind.wrap_u64];omega
   have hw2:IntKind.u8.wrap (y:Int)=(y:Int):=by rw[IntKind.wrap_u8];omega
   have hw3:IntKind.u64.wrap ((n/128:Nat):Int)=((n/128:Nat):Int):=by rw[IntKind.wrap_u64];omega
   have HW:=zh (And.intro ht (And.intro hw1 (And.intro hw2 hw3)));rw[←hy]at HV;have hsz:¬(9223372036854775807<(strOf [y]).size+(strOf (vb (n/128))).size):=by
    rw[strOf_size,strOf_size];have:=vb_ten (n:=n/128) (by omega);simp;omega
   clear ih h hy hr ht hw1 hw2 hw3;generalize strOf [y]=S1 at*;generalize n/128=q at*;generalize strOf (vb q)=S2 at*;rw[HV.out];go_enter Tryz.func110,Tryz.ntmps110;go_wp2_with fail;obtain⟨ht,hw1,hw2,hw3⟩:=HW.out
   go_region_with (go_at_call 110;refine(HIH.out _).mono ?_;rintro e w8 ⟨rfl,b8⟩;obtain⟨hcl,hfr⟩:=ecell b8;have hz8:=b8.size;have B8:=zh b8;clear b8)
   all_goals
    clear hcl hfr hcv;go_wp2_with fail;go_ret;refine⟨rfl,?_⟩
    first
    | exact zxt (zxd (zxa (zxr _) _)) B8.out
    | exact zxa (zxt (zxd (zxr _)) B8.out) _
end Go.Proofs.YtbopblbhjcemaaaGreatDoor.Wire
