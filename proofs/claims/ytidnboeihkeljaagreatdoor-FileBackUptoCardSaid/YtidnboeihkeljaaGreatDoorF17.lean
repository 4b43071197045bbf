
import Derived.Test.YtidnboeihkeljaaGreatDoorF09
import Derived.Test.YtidnboeihkeljaaGreatDoorF12
set_option maxHeartbeats 16000000
set_option maxRecDepth 100000
set_option linter.all false
open Go.ChangeShapes Go.WideShapes Go.ChangeAt Go.RowKit
namespace Go.Proofs.YtidnboeihkeljaaGreatDoor.Delta
open Wire
theorem own_low {w:World} {base base':Nat} {e:TypeId} {size n:Nat} {v:Value} {xs:List Value} (h:w.ownsRow base e size v n xs) (hb:base'≤base):w.ownsRow base' e size v n xs:=by
 refine⟨h.1,?_⟩;rcases h.2 with h | ⟨g,cap,cur,h1,h2,h3⟩
 ·exact .inl h
 ·exact .inr ⟨g,cap,cur,h1,zw10 hb h2,h3⟩
theorem puts_ext {a w w':World} {zs:List Nat} {e:Ending} (h:Puts w zs e w') (hE:Ext a w):Puts a zs e w':=by
 obtain⟨g,c,rfl,h1,h2,h3,h4,h5⟩:=h;exact⟨g,c,rfl,h1,h2,zw10 hE.size h3,own_low h4 hE.size,zxt hE h5⟩
theorem ddiff (A B:Option Addr) (n c n2 c2:Nat) (xs ys:List Nat) (w:World) (hA:Bs w A n xs) (hB:Bs w B n2 ys) (hn:n≤1000000) (hn2:n2≤1000000):
  Calls Tryz.prog 32 #[.slice A n c,.slice B n2 c2] w (Puts w (diff xs ys)):=by
 have hyl:ys.length=n2:=hB.1;have HX:=zh (xor A B n c n2 c2 xs ys w hA hB (by omega) (by omega));have HL:=zh (mix_len xs ys);have HS:=zh (mix_small hA.2.1 hB.2.1);have HD:Hid (diff xs ys=vb (mix xs ys).length++enc (mix xs ys)):=zh (by unfold diff;rw[mix_len]);rw[HD.out];have hl:(mix xs ys).length≤1000000:=by rw[mix_len];omega
 clear hA hB hyl HD;generalize mix xs ys=zs at*;obtain⟨ds,hds⟩:∃ds,ds=vb zs.length++enc zs:=⟨_,rfl⟩;rw[←hds];have HDS:=zh hds;clear hds;go_enter Tryz.func32,Tryz.ntmps32;go_wp2_with fail;refine HX.out.mono ?_;rintro e w1 ⟨g,rfl,hg,hO,hE⟩;have hgl:g<w1.heap.size:=(zw23 hO g rfl).2;have HO:=zh (Own.bs hO HS.out);have HE:=zh hE;clear hO hE;go_wp2_with fail;refine(encode g zs.length zs w1 HO.out hgl hl (zw8 _) (by omega)).mono ?_;intro e w2 hp;rw[←HDS.out]at hp;have HP:=zh (puts_ext hp HE.out);obtain⟨g2,c3,rfl,h1,h2,h3,h4,h5⟩:=hp;clear h1 h2 h3 h4 h5;go_wp2_with fail;go_ret;exact HP.out
inductive LR where
 | bad (err:Int)
 | ok (l:List (Nat × List Nat))
def lits (n:Nat) (at_:Nat) (rest:List Nat):LR:=
 if h0:rest=[]then .ok []else
 match lim (vr 0 0 rest)with
 | .short=> .bad 3
 | .form=> .bad 4
 | .ok z k=>
  if n<at_+z then .bad 4 else
  match tr (rest.drop k) ((n:Int)-at_-z)with
  | .bad f=> .bad f
  | .ok ys j=>
   if hj:0<k+j then
    match lits n (at_+z+ys.length) (rest.drop (k+j))with
    | .bad f=> .bad f
    | .ok l=> .ok ((at_+z,ys)::l)
   else .bad 4
termination_by rest.length
decreasing_by
 have:0<rest.length:=List.length_pos_iff.2 h0;rw[zw1];omega
def LR.pre (l:List (Nat × List Nat)):LR→LR
 | .bad f=> .bad f
 | .ok m=> .ok (l++m)
theorem pre_nil (R:LR):LR.pre [] R=R:=by cases R<;>rfl
theorem pre_pre (l m:List (Nat × List Nat)) (R:LR):LR.pre l (LR.pre m R)=LR.pre (l++m) R:=by cases R<;>simp[LR.pre]
theorem lits_nil (n at_:Nat):lits n at_ []= .ok []:=by rw[lits];rfl
theorem lits_short {n at_:Nat} {rest:List Nat} (h0:rest≠[]) (h:lim (vr 0 0 rest)= .short):lits n at_ rest= .bad 3:=by rw[lits,dif_neg h0,h]
theorem lits_form {n at_:Nat} {rest:List Nat} (h0:rest≠[]) (h:lim (vr 0 0 rest)= .form):lits n at_ rest= .bad 4:=by rw[lits,dif_neg h0,h]
theorem lits_big {n at_:Nat} {rest:List Nat} {z k:Nat} (h0:rest≠[]) (h:lim (vr 0 0 rest)= .ok z k) (hb:n<at_+z):lits n at_ rest= .bad 4:=by
 rw[lits,dif_neg h0,h];simp only[if_pos hb]
theorem lits_bad {n at_:Nat} {rest:List Nat} {z k:Nat} {f:Int} (h0:rest≠[]) (h:lim (vr 0 0 rest)= .ok z k) (hb:¬n<at_+z) (ht:tr (rest.drop k) ((n:Int)-at_-z)= .bad f):lits n at_ rest= .bad f:=by
 rw[lits,dif_neg h0,h];simp only[if_neg hb,ht]
theorem lits_more {n at_:Nat} {rest:List Nat} {z k:Nat} {ys:List Nat} {j:Nat} (h0:rest≠[]) (h:lim (vr 0 0 rest)= .ok z k) (hb:¬n<at_+z) (ht:tr (rest.drop k) ((n:Int)-at_-z)= .ok ys j) (hj:0<k+j):
  lits n at_ rest=LR.pre [(at_+z,ys)] (lits n (at_+z+ys.length) (rest.drop (k+j))):=by
 rw[lits,dif_neg h0,h];simp only[if_neg hb,ht,dif_pos hj];cases lits n (at_+z+ys.length) (rest.drop (k+j))<;>rfl
theorem tr_len {rest:List Nat} {m:Int} {ys:List Nat} {j:Nat} (h:tr rest m= .ok ys j) (hs:∀c∈rest,c<256):(ys.length:Int)≤m∧j≤rest.length∧0<j∧ys.length≤rest.length:=by
 unfold tr at h
 cases hv:vr 0 0 rest with
 | short=>rw[hv]at h;cases h
 | form=>rw[hv]at h;cases h
 | ok z k=>
  rw[hv]at h;simp only at h;have hk:=vr_ok hs hv;have hp:=vb_pos z;by_cases h1:m<0∨m<(z:Int)
  ·rw[if_pos h1]at h;cases h
  ·rw[if_neg h1]at h
   by_cases h2:rest.length-k<z
   ·rw[if_pos h2]at h;cases h
   ·rw[if_neg h2]at h
    cases h
    rw[zw2,zw1];omega
theorem lim_ok {R:VR} {v k:Nat} (h:lim R= .ok v k):R= .ok v k:=by
 cases R with
 | short=>cases h
 | form=>cases h
 | ok a b=>
  simp only[lim]at h;by_cases hb:a≤2147483647
  ·rw[if_pos hb]at h;exact h
  ·rw[if_neg hb]at h;cases h
theorem lits_enc (m:Nat):∀(at_:Nat) (l:List Nat),l.length≤m→l.length≤1000000→(∀c∈l,c<256)→lits (at_+l.length) at_ (enc l)= .ok (pcs at_ l):=by
 induction m with
 | zero=>
  intro at_ l hl _ _;rw[enc_stop (by omega),pcs_stop (by omega),lits_nil]
 | succ m ih=>
  intro at_ l hl hb hs;by_cases h:zr l<l.length
  ·have h1:=zr_full h
   have h2:=lit_pos h1.2 h1.1;have h3:=lit_le (l.drop (zr l));rw[zw1]at h3;generalize hz:zr l=z at*;generalize hk:lit (l.drop z)=k at*;have e:=enc_more (l:=l) (by rw[hz];exact h);rw[hz,hk]at e;have hL:((l.drop z).take k).length=k:=by rw[zw2,zw1];omega
   have hv1:=vr_put (m:=z) (by omega) (vb k++(l.drop z).take k++enc (l.drop (z+k)));have hv2:=vr_put (m:=k) (by omega) ((l.drop z).take k++enc (l.drop (z+k)));have e0:enc l=vb z++(vb k++(l.drop z).take k++enc (l.drop (z+k))):=by rw[e];simp only[zw7]
   have ed:(enc l).drop (vb z).length=vb k++((l.drop z).take k++enc (l.drop (z+k))):=by rw[e0,List.drop_left,zw7]
   have ht:tr ((enc l).drop (vb z).length) (((at_+l.length:Nat):Int)-at_-z)= .ok ((l.drop z).take k) ((vb k).length+k):=by
    rw[ed];unfold tr;rw[hv2];simp only;rw[if_neg (by omega),if_neg (by simp only[zw0,hL];omega),List.drop_left,List.take_left' hL]
   have hp:=vb_pos z;have hne:enc l≠[]:=fun hn=>by
    have:=congrArg List.length e0;rw[hn,zw0]at this;simp at this;omega
   rw[lits_more hne (by rw[e0,hv1];simp only[lim];rw[if_pos (by omega)]) (by omega) ht (by omega)];have hdr:(enc l).drop ((vb z).length+((vb k).length+k))=enc (l.drop (z+k)):=by
    rw[←zw31,ed,←zw31,List.drop_left,List.drop_left' hL]
   have hlen:at_+l.length=at_+z+k+(l.drop (z+k)).length:=by rw[zw1];omega
   rw[hdr,hL,hlen,ih (at_+z+k) (l.drop (z+k)) (by rw[zw1];omega) (by rw[zw1];omega) (fun c hc=>hs c (List.mem_of_mem_drop hc))];have hpm:=pcs_more (at_:=at_) (l:=l) (by rw[hz];exact h);rw[hz,hk]at hpm;rw[hpm,Nat.add_assoc];rfl
  ·rw[enc_stop h,pcs_stop h,lits_nil]
end Go.Proofs.YtidnboeihkeljaaGreatDoor.Delta
namespace Go.Proofs.YtidnboeihkeljaaGreatDoor.Wire
theorem text_err (g at_:Nat) (s:Value) (e0 most:Int) (w:World) (h:Rdr w g s at_ e0) (he:(e0==0)=false):
  Calls Tryz.prog 118 #[.pointer (some ⟨g,0,none⟩),.int .i64 most] w fun e w'=>e= .returned (.string ⟨#[]⟩)∧Ext w w':=by
 have ha:=zxa (zxr w) (.cells #[.pointer (some ⟨g,0,none⟩)] 145);have hb:=zxa (zxr (w.alloc (.cells #[.pointer (some ⟨g,0,none⟩)] 145))) (.cells #[.int .i64 most] 3);have HC:=zh (fun F=>reading_err_70 g at_ s F e0 _ ((h.ext ha).ext hb) he);clear h he;have HA:=zh ha;have HB:=zh hb;clear ha hb;go_enter Tryz.func118,Tryz.ntmps118;go_wp2_with fail;refine(HC.out _).mono ?_;rintro e w3 ⟨rfl,hE3⟩;have HE3:=zh hE3;clear hE3;go_wp2_with fail;go_ret;exact⟨rfl,zxt (zxt HA.out HB.out) HE3.out⟩
end Go.Proofs.YtidnboeihkeljaaGreatDoor.Wire
namespace Go.Proofs.YtidnboeihkeljaaGreatDoor.Delta
open Go.ChangeShapes Go.WideShapes Go.ChangeAt Go.RowKit
open Wire
theorem infoP:(Tryz.prog.info? 152).map (fun i=>(i.zero,i.size,i.bytes))=some (some (.agg #[.int .i64 0,.string ⟨#[]⟩]),2,24):=by kernel_rfl
theorem tr_small {rest:List Nat} {m:Int} {ys:List Nat} {j:Nat} (h:tr rest m= .ok ys j) (hs:∀c∈rest,c<256):∀c∈ys,c<256:=by
 unfold tr at h
 cases hv:vr 0 0 rest with
 | short=>rw[hv]at h;cases h
 | form=>rw[hv]at h;cases h
 | ok z k=>
  rw[hv]at h;simp only at h;by_cases h1:m<0∨m<(z:Int)
  ·rw[if_pos h1]at h;cases h
  ·rw[if_neg h1]at h
   by_cases h2:rest.length-k<z
   ·rw[if_pos h2]at h;cases h
   ·rw[if_neg h2]at h
    cases h
    exact fun c hc=>hs c (List.mem_of_mem_drop (List.mem_of_mem_take hc))
def pcells (l:List (Nat × List Nat)):List Value:=l.flatMap fun p=>[.int .i64 (p.1:Int),.string (strOf p.2)]
theorem pcells_snoc (l:List (Nat × List Nat)) (p:Nat × List Nat):pcells (l++[p])=pcells l++[.int .i64 (p.1:Int),.string (strOf p.2)]:=by simp[pcells]
def POwn (W w:World) (v:Value) (l:List (Nat × List Nat)):Prop:=w.ownsRow W.heap.size 152 2 v l.length (pcells l)
theorem powned {W w:World} {g j:Nat} {s:Value} {e:Int} {v:Value} {l:List (Nat × List Nat)} {w':World} (h:POwn W w v l) (hg:g<W.heap.size) (hE:Eff w w' g s j e):POwn W w' v l:=
 zw24 h hE.2 (.inr (fun e=>by have:=own_ge h g e;omega))
theorem POwn.ext {W w w':World} {v:Value} {l:List (Nat × List Nat)} (h:POwn W w v l) (hE:Ext w w'):POwn W w' v l:=own_ext h hE
theorem eff_app {w w3 w5:World} {g i:Nat} {s:Value} {e:Int} {t:TypeId} {size n:Nat} {v:Value} {xs:List Value} (hE:Eff w w3 g s i e) (hO:w3.ownsRow w.heap.size t size v n xs) (hg:g<w.heap.size) (hgr:w3.grownBy w5 v.ownBlock):Eff w w5 g s i e:=by
 have hne:∀k,k<w.heap.size→some k≠v.ownBlock:=fun k hk e=>by have:=own_ge hO k e.symm;omega
 refine⟨(hgr.block g (zw9 hg hE.2.size) (hne g hg)).trans hE.1,⟨hgr.os.trans hE.2.os,hgr.tape.trans hE.2.tape,hgr.output.trans hE.2.output,zw10 hE.2.size hgr.size,fun k hk hkg=>?_⟩⟩;exact(hgr.block k (zw9 hk hE.2.size) (hne k hk)).trans (hE.2.block k hk hkg)
def LPost (w:World) (g n:Nat) (R:LR) (e:Ending) (w':World):Prop:=
 w.grownBy w' (some g)∧match R with
 | .bad f=>e= .returned (.tuple #[.slice none 0 0,.int .i64 f])∧f≠0
 | .ok l=>∃v,e= .returned (.tuple #[v,.int .i64 0])∧POwn w w' v l∧∀p∈l,p.1+p.2.length≤n∧∀c∈p.2,c<256
def LRel (w:World) (g n N c:Nat) (A:Option Addr) (xs:List Nat) (R:LR) (ov av:Value) (wr:World):Prop:=
 ∃(i k:Nat) (l:List (Nat × List Nat)),i≤N∧k≤n∧av= .int .i64 (k:Int)∧POwn w wr ov l∧l.length≤i∧Eff w wr g (.slice A N c) i 0∧RB wr g A N c xs∧LR.pre l (lits n k (xs.drop i))=R∧
  ∀p∈l,p.1+p.2.length≤n∧∀c∈p.2,c<256
theorem literals (g n N c i0:Nat) (A:Option Addr) (xs:List Nat) (w:World) (h:Rdr w g (.slice A N c) i0 0) (hi0:i0≤N) (hB:RB w g A N c xs) (hN:N≤1000000) (hn:n≤2147483647):
  Calls Tryz.prog 82 #[.pointer (some ⟨g,0,none⟩),.int .i64 (n:Int)] w (LPost w g n (lits n 0 (xs.drop i0))):=by
 have hgl:g<w.heap.size:=Blk.lt h;have hxl:xs.length=N:=hB.1.1;have hxs:=mem_small hB.1.2.1;have H:=zh h;have HB:=zh hB;have HXS:=zh hxs;have HXL:=zh hxl;clear h hB hxs hxl;obtain⟨R,hR⟩:∃R,R=lits n 0 (xs.drop i0):=⟨_,rfl⟩;rw[←hR];have HR:=zh hR;clear hR;go_enter Tryz.func82,Tryz.ntmps82;go_wp2_with fail
 go_loopw [6,7] (fun ov av wr=>LRel w g n N c A xs R ov av wr) (fun _ _ wr=>N-(intOf ((wr.cell? ⟨g,1,none⟩).getD undef)).toNat)
 case atStart=>exact⟨i0,0,[],hi0,Nat.zero_le _,rfl,World.ownsRow_nil _ _ _ _,Nat.zero_le _,⟨H.out,gb_refl _ _⟩,HB.out,by rw[pre_nil,HR.out],fun p hp=>by cases hp⟩
 case round=>
  obtain⟨i,k,l,hi,hk,rfl,hO,hli,hE,hRB,hP,hA⟩:=hrel;have hm:N-(intOf ((wr.cell? ⟨g,1,none⟩).getD undef)).toNat=N-i:=by rw[hE.1.cells.2.1];simp[intOf]
  rw[hm];have HO:=zh hO;have HE:=zh hE;have HRB:=zh hRB;have HP:=zh hP;have HAL:=zh hA;clear hO hE hRB hP hA hm;go_wp2_with fail;refine(left_any g N c A i 0 wr HE.out.1 hi (by omega)).mono ?_;rintro e w1 ⟨rfl,b1⟩;have HE1:=zh (HE.out.ext b1);have B1:=zh b1;clear b1;have HXD:=zh (zw1 (i:=i) (l:=xs));obtain⟨L,hL⟩:∃L:Nat,L=N-i:=⟨_,rfl⟩;rw[←hL];have HL:=zh hL;clear hL;by_cases hiN:i=N
  ·obtain rfl:L=0:=by rw[HL.out];omega
   have HRR:Hid (R= .ok l):=zh (by rw[←HP.out,hiN,List.drop_of_length_le (by rw[HXL.out];exact zw8 _),lits_nil];simp[LR.pre]);clear hiN;go_wp2_with fail
   go_ret2
   exact⟨HE1.out.2,by rw[HRR.out];exact⟨_,rfl,POwn.ext HO.out B1.out,HAL.out⟩⟩
  ·have hgt:0<L:=by rw[HL.out];omega
   have hne:Hid (xs.drop i≠[]):=zh (fun e=>by have:=congrArg List.length e;rw[zw1,HXL.out]at this;simp at this;omega);clear hiN;go_wp2_with fail;refine(int g N c i A xs w1 HE1.out.1 (HRB.out.eff (gb_ext B1.out _)).1 hi (by omega)).mono ?_;rintro e w2 ⟨z,j,err,rfl,hz,hE2,hl⟩;have hE2':=hE2;have HE2:=zh (HE1.out.trans hE2);cases hLM:lim (vr 0 0 (xs.drop i))with
   | short=>
    rw[hLM]at hl;obtain⟨rfl,rfl,rfl⟩:=hl;have HRR:Hid (R= .bad 3):=zh (by rw[←HP.out,lits_short hne.out hLM];rfl);clear hLM;clear hE2 hE2';go_wp2_with fail;refine(err_any g _ (i+0) 3 w2 HE2.out.1).mono ?_;rintro e w3 ⟨rfl,rfl⟩;go_wp2_with fail;refine(text_err g (i+0) _ 3 _ w2 HE2.out.1 (by decide)).mono ?_;rintro e w3 ⟨rfl,b3⟩;have HE3:=zh (HE2.out.ext b3);clear b3;go_wp2_with fail;refine(err_any g _ (i+0) 3 w3 HE3.out.1).mono ?_;rintro e w4 ⟨rfl,rfl⟩;go_wp2_with fail;refine(err_any g _ (i+0) 3 w3 HE3.out.1).mono ?_;rintro e w4 ⟨rfl,rfl⟩;go_wp2_with fail
    go_ret2
    exact⟨HE3.out.2,by rw[HRR.out];exact⟨rfl,by decide⟩⟩
   | form=>
    rw[hLM]at hl;obtain⟨rfl,rfl,rfl⟩:=hl;have HRR:Hid (R= .bad 4):=zh (by rw[←HP.out,lits_form hne.out hLM];rfl);clear hLM;clear hE2 hE2';go_wp2_with fail;refine(err_any g _ (i+0) 4 w2 HE2.out.1).mono ?_;rintro e w3 ⟨rfl,rfl⟩;go_wp2_with fail;refine(text_err g (i+0) _ 4 _ w2 HE2.out.1 (by decide)).mono ?_;rintro e w3 ⟨rfl,b3⟩;have HE3:=zh (HE2.out.ext b3);clear b3;go_wp2_with fail;refine(err_any g _ (i+0) 4 w3 HE3.out.1).mono ?_;rintro e w4 ⟨rfl,rfl⟩;go_wp2_with fail;refine(err_any g _ (i+0) 4 w3 HE3.out.1).mono ?_;rintro e w4 ⟨rfl,rfl⟩;go_wp2_with fail
    go_ret2
    exact⟨HE3.out.2,by rw[HRR.out];exact⟨rfl,by decide⟩⟩
   | ok v kk=>
    rw[hLM]at hl;obtain⟨rfl,rfl,rfl⟩:=hl;have HLM:=zh hLM;clear hLM;obtain⟨_,hk1,_,hk2⟩:=vr_ok (fun c hc=>HXS.out c (List.mem_of_mem_drop hc)) (lim_ok HLM.out);rw[HXD.out,HXL.out]at hk2;have hkp:=vb_pos z;rw[←hk1]at hkp;have hij:i+j≤N:=by omega
    clear hE2 hk1;go_wp2_with fail;refine(err_any g _ (i+j) 0 w2 HE2.out.1).mono ?_;rintro e w3 ⟨rfl,rfl⟩;by_cases hbig:n<k+z
    ·have hb2:(n:Int)-(k:Int)<(z:Int):=by omega
     have HRR:Hid (R= .bad 4):=zh (by rw[←HP.out,lits_big hne.out HLM.out hbig];rfl);clear hbig;go_wp2_with fail
     go_ret2
     exact⟨HE2.out.2,by rw[HRR.out];exact⟨rfl,by decide⟩⟩
    ·have hb2:¬(n:Int)-(k:Int)<(z:Int):=by omega
     go_wp2_with fail;have HRB2:=zh (HRB.out.eff (gb_trans (gb_ext B1.out _) (hE2'.2)));have HDD:Hid ((xs.drop i).drop j=xs.drop (i+j)):=zh zw31;refine(text g N c (i+j) ((n:Int)-(k:Int)-(z:Int)) (by omega) (by omega) A xs w2 HE2.out.1 HRB2.out hij (by omega)).mono ?_;intro e w3 hT;cases hTR:tr (xs.drop (i+j)) ((n:Int)-(k:Int)-(z:Int))with
     | bad f=>
      rw[hTR]at hT;obtain⟨rfl,hE3⟩:=hT;have HE3:=zh (HE2.out.trans hE3);have hf:=tr_bad hTR;have hf2:(f==0)=false:=zw12.2 hf;have hf3:(f != 0)=true:=by rw[bne_iff_ne];exact hf
      have HRR:Hid (R= .bad f):=zh (by rw[←HP.out,lits_bad hne.out HLM.out hbig (by rw[HDD.out];exact hTR)];rfl);have HF:=zh hf;clear hTR hE3 hbig hf;go_wp2_with fail;refine(err_any g _ (i+j) f w3 HE3.out.1).mono ?_;rintro e w4 ⟨rfl,rfl⟩;go_wp2_with fail;refine(err_any g _ (i+j) f w3 HE3.out.1).mono ?_;rintro e w4 ⟨rfl,rfl⟩;go_wp2_with fail
      go_ret2
      exact⟨HE3.out.2,by rw[HRR.out];exact⟨rfl,HF.out⟩⟩
     | ok ys jj=>
      rw[hTR]at hT;obtain⟨rfl,hE3⟩:=hT;have HE3:=zh (HE2.out.trans hE3);obtain⟨t1,t2,t3,t4⟩:=tr_len hTR (fun c hc=>HXS.out c (List.mem_of_mem_drop hc));rw[zw1,HXL.out]at t2 t4;have HRR:Hid (R=LR.pre (l++[(k+z,ys)]) (lits n (k+z+ys.length) (xs.drop (i+j+jj)))):=zh (by
       rw[←HP.out,lits_more hne.out HLM.out hbig (by rw[HDD.out];exact hTR) (by omega),pre_pre,zw31,Nat.add_assoc i])
      have HO3:=zh (powned (POwn.ext HO.out B1.out) hgl (hE2'.trans hE3));have HRB3:=zh (HRB2.out.eff hE3.2);have HYB:Hid (∀c∈ys,c<256):=zh (tr_small hTR (fun c hc=>HXS.out c (List.mem_of_mem_drop hc)));have HYS:=zh (strOf_size ys);clear hTR hE3 hbig;generalize hS:strOf ys=S at*;have HS:=zh hS;clear hS;have hsb:S.size≤1000000:=by rw[HYS.out];omega
      go_wp2_with fail;refine(err_any g _ (i+j+jj) 0 w3 HE3.out.1).mono ?_;rintro e w4 ⟨rfl,rfl⟩;have ha:=zxa (zxr w3) (.cells #[.int .i64 ((k:Int)+(z:Int)),.string S] 152);have HEA:=zh (HE3.out.ext ha);have HOA:=zh (POwn.ext HO3.out ha);have HSRC:Hid (Src Tryz.prog 2 148 (.slice (some ⟨w3.heap.size,0,none⟩) 1 1) 1 [.int .i64 ((k:Int)+(z:Int)),.string S] (w3.alloc (.cells #[.int .i64 ((k:Int)+(z:Int)),.string S] 152))):=zh (Src.ofSlice _ Tryz.underlying148 ⟨w3.heap.size,0,none⟩ 1 1 _ rfl (fun q u hu=>by
       rw[show((⟨w3.heap.size,0,none⟩:Addr).add q)=⟨w3.heap.size,q,none⟩from by unfold Addr.add;split<;>simp_all,World.cell?_alloc_new]
       rw[←hu];simp) (fun u hu=>by
       simp only[zw30,List.not_mem_nil,or_false]at hu;rcases hu with rfl | rfl<;>rfl))
      have hsz:=HE3.out.2.size;obtain⟨iP,hi0,hz0,hz1,hz2⟩:=info_parts infoP;have HI:=zh (And.intro hi0 (And.intro hz0 (And.intro hz1 hz2)));clear hi0 hz0 hz1 hz2;have hll:l.length≤1000000:=by omega
      clear ha;go_wp2_with (at_builtin;refine wpList_app_own rfl (.tmp 40) (.tmp 44) 148 148 rfl 152 iP (.agg #[.int .i64 0,.string ⟨#[]⟩]) 2 24 Tryz.underlying148 HI.out.1 HI.out.2.1 HI.out.2.2.1 HI.out.2.2.2 rfl w.heap.size _ (.slice (some ⟨w3.heap.size,0,none⟩) 1 1) l.length (pcells l) rfl rfl HOA.out 1 _ HSRC.out (by unfold maxLen;omega) (by omega) (by simp;omega) ?_;intro v5 w5 hown5 hgr5;have HOW5:=zh hown5;have HGR5:=zh hgr5;clear hown5 hgr5)
      have HE5:=zh (eff_app HEA.out HOA.out hgl HGR5.out);have HO5:Hid (POwn w w5 v5 (l++[(k+z,ys)])):=zh (by
       have:=HOW5.out;unfold POwn;rw[pcells_snoc,zw0,HS.out];exact this)
      have hmm:N-(intOf ((w5.cell? ⟨g,1,none⟩).getD undef)).toNat=N-(i+j+jj):=by rw[HE5.out.1.cells.2.1];simp[intOf];omega
      go_roundw
      case rel=>exact⟨i+j+jj,k+z+ys.length,l++[(k+z,ys)],by omega,by omega,int_eq (by rw[HYS.out];omega),HO5.out,by simp;omega,HE5.out,HB.out.eff HE5.out.2,HRR.out.symm,fun p hp=>by
       rcases zw16.1 hp with hp | hp
       ·exact HAL.out p hp
       ·simp only[zw30,List.not_mem_nil,or_false]at hp
        subst hp;exact⟨by show k+z+ys.length≤n;omega,HYB.out⟩⟩
      case measure=>rw[hmm];omega
theorem same_yes (A B:Option Addr) (n c m d:Nat) (xs:List Nat) (w:World) (hA:Bs w A n xs) (hB:Bs w B m xs):
  Calls Tryz.prog 83 #[.slice A n c,.slice B m d] w fun e w'=>e= .returned (.bool true)∧w=w':=by
 have h1:=hA.conv (P:=Tryz.prog) 48 5 9 Tryz.underlying48 Tryz.underlying5 Tryz.underlying9 c;have h2:=hB.conv (P:=Tryz.prog) 48 5 9 Tryz.underlying48 Tryz.underlying5 Tryz.underlying9 d;clear hA hB;generalize strOf xs=S at*;go_enter Tryz.func83,Tryz.ntmps83;go_wp2_with fail;go_ret;exact⟨rfl,rfl⟩
theorem same_no (A B:Option Addr) (n c m d:Nat) (xs ys:List Nat) (w:World) (hA:Bs w A n xs) (hB:Bs w B m ys) (hne:xs≠ys):
  Calls Tryz.prog 83 #[.slice A n c,.slice B m d] w fun e w'=>e= .returned (.bool false)∧w=w':=by
 have h1:=hA.conv (P:=Tryz.prog) 48 5 9 Tryz.underlying48 Tryz.underlying5 Tryz.underlying9 c;have h2:=hB.conv (P:=Tryz.prog) 48 5 9 Tryz.underlying48 Tryz.underlying5 Tryz.underlying9 d;have h3:((strOf xs).toList==(strOf ys).toList)=false:=zw12.2 (str_ne (fun e=>hne (strOf_inj hA.2.1 hB.2.1 e)));clear hA hB hne;generalize strOf xs=S at*;generalize strOf ys=T at*;go_enter Tryz.func83,Tryz.ntmps83;go_wp2_with fail;go_ret;exact⟨rfl,rfl⟩
inductive AR where
 | bad (err:Int)
 | ok (zs:List Nat)
def folded (n:Nat) (l:List (Nat × List Nat)):List Nat:=l.foldl (fun x p=>lay x p.1 p.2) (List.replicate n 0)
def applied (xs ds:List Nat) (most:Int):AR:=
 match lim (vr 0 0 ds)with
 | .short=> .bad 3
 | .form=> .bad 4
 | .ok n k=>
  if most<(n:Int)then .bad 6 else
  match lits n 0 (ds.drop k)with
  | .bad f=> .bad f
  | .ok l=>if vb n++enc (folded n l)=ds then .ok (mix xs (folded n l))else .bad 4
theorem lay_len (x:List Nat) (i:Nat) (ys:List Nat) (h:i+ys.length≤x.length):(lay x i ys).length=x.length:=by
 simp only[lay,zw0,zw2,zw1];omega
theorem fold_len (l:List (Nat × List Nat)):∀x:List Nat,(∀p∈l,p.1+p.2.length≤x.length)→(l.foldl (fun x p=>lay x p.1 p.2) x).length=x.length:=by
 induction l with
 | nil=>intro x _;rfl
 | cons p l ih=>
  intro x h;have h0:=lay_len x p.1 p.2 (h p List.mem_cons_self);rw[List.foldl_cons,ih _ (fun q hq=>by rw[h0];exact h q (List.mem_cons_of_mem _ hq)),h0]
theorem lay_small {x:List Nat} {i:Nat} {ys:List Nat} (hx:∀c∈x,c<256) (hy:∀c∈ys,c<256):∀c∈lay x i ys,c<256:=fun c hc=>by
 simp only[lay,zw16]at hc;rcases hc with (hc | hc) | hc
 ·exact hx c (List.mem_of_mem_take hc)
 ·exact hy c hc
 ·exact hx c (List.mem_of_mem_drop hc)
theorem fold_small (l:List (Nat × List Nat)):∀x:List Nat,(∀c∈x,c<256)→(∀p∈l,∀c∈p.2,c<256)→∀c∈l.foldl (fun x p=>lay x p.1 p.2) x,c<256:=by
 induction l with
 | nil=>intro x h _;exact h
 | cons p l ih=>
  intro x h hp;rw[List.foldl_cons];exact ih _ (lay_small h (hp p List.mem_cons_self)) (fun q hq=>hp q (List.mem_cons_of_mem _ hq))
theorem applied_diff (xs ys:List Nat) (hx:∀c∈xs,c<256) (hy:∀c∈ys,c<256) (hl:ys.length≤1000000):applied xs (diff xs ys) (ys.length:Nat)= .ok ys:=by
 have hm:=mix_len xs ys;have hms:=mem_small (mix_small (small_mem hx) (small_mem hy));have h1:=vr_put (m:=ys.length) (by omega) (enc (mix xs ys));have h2:=lits_enc _ 0 (mix xs ys) (zw8 _) (by rw[hm];exact hl) hms;rw[Nat.zero_add,hm]at h2;have h3:=fill _ (mix xs ys) [] (zw8 _);rw[zw26,zw17,zw17,hm]at h3;have e:diff xs ys=vb ys.length++enc (mix xs ys):=rfl;unfold applied;rw[e,h1];simp only[lim];rw[if_pos (by omega)];simp only;rw[if_neg (by omega),List.drop_left,h2];have h4:folded ys.length (pcs 0 (mix xs ys))=mix xs ys:=h3;simp only;rw[if_pos (by rw[h4]),h4,mix_mix]
theorem wpList_of_copy {P:Program} {w:World} {ops:Array Oper} {rest:List Oper} {o:Oper} {a:Act} {Q:Exit→Act→World→Prop} (hgd:o.guard=none) (s x:Operand) (t tx:TypeId)
  (ho:o.op= .call {callee:= .builtin .copy,args:= #[s,x],argTypes:= #[t,tx]}) (vs vx:Value) (hs:a.eval s=vs) (hx:a.eval x=vx) {v':Value} {w':World}
  (hr:(Builtin.copy_ #[t,tx] o.type #[vs,vx]).run P w= .ok v' w') (h:wpList P ops Q rest (a.put o.dst v') w'):wpList P ops Q (o::rest) a w:=
 wpList_plain hgd fun K hK=>by
  unfold Oper.wp execOp;simp only[ho,resolve,invoke,builtin,Sem.run_bind,Sem.run_pure,Result.andThen_ok,List.map_toArray,List.map_cons,List.map_nil,hs,hx,hr];exact hK _ _ h
theorem run_lay {w:World} (base g n i:Nat) (zs:List Nat) (S:ByteArray) (hown:w.ownsRow base 5 1 (.slice (some ⟨g,0,none⟩) n n) n (c8 zs)) (hfit:i+S.size≤n) (d:Value) (hd:S.size=0∧(∃p m c,d= .slice p m c)∨d= .slice (some ⟨g,i,none⟩) (n-i) (n-i)) (ty:TypeId):
  ∃w',(Builtin.copy_ #[48,9] ty #[d,.string S]).run Tryz.prog w= .ok (goInt S.size) w'∧w'.ownsRow base 5 1 (.slice (some ⟨g,0,none⟩) n n) n (c8 (lay zs i (natsOf S)))∧w.grownBy w' (some g):=by
 have hsz:(Tryz.prog.info? 5).map (·.size)=some 1:=by kernel_rfl
 have hnl:=natsOf_len S;rcases hd with ⟨h0,p,m,c,rfl⟩ | rfl
 ·refine⟨w,?_,?_,World.grownBy.refl _ _⟩
  ·rw[Lib.run_copy_empty_string w _ _ ty 5 p m c S Tryz.underlying48 (by rw[hsz];rfl) h0,h0];rfl
  ·have e:natsOf S=[]:=zw19 (by rw[hnl,h0])
   rw[e];unfold lay
   simpa using hown
 ·rcases hown.2 with ⟨hq,_⟩ | ⟨g',cap,cur,hq,hb,hg,hnc,hcm,hcs,htk⟩
  ·simp at hq
  ·simp only[Value.slice.injEq,Option.some.injEq,Addr.mk.injEq,and_true,true_and]at hq
   obtain⟨rfl,rfl⟩:=hq;have hcl:cur.size=n:=by rw[hcs,Nat.mul_one]
   have hcz:cur.toList=c8 zs:=by rw[←htk,Nat.mul_one,List.take_of_length_le (by rw[Array.length_toList,hcl];exact zw8 _)]
   have hzl:zs.length=n:=by have:=hown.1;rwa [c8_len,Nat.mul_one]at this
   have hbc:Lib.byteCells S.data.toList=c8 (natsOf S):=byteCells_eq S;have hfin:(cur.toList.take i++Lib.byteCells S.data.toList++cur.toList.drop (i+S.size)).toArray=(c8 (lay zs i (natsOf S))).toArray:=by
    rw[hcz,hbc];simp only[lay,c8_app,hnl];simp[c8,List.map_take,List.map_drop]
   have hll:(lay zs i (natsOf S)).length=n:=by rw[lay_len _ _ _ (by rw[hnl,hzl];exact hfit),hzl]
   refine⟨_,Lib.run_copy_row_string w _ _ ty 5 g i (n-i) (n-i) S cur _ Tryz.underlying48 hsz hg (by omega) (by rw[hcl];exact hfit),?_,⟨rfl,rfl,rfl,by simp[World.setRow],fun k _ hk=>setRow_other w g k _ (fun e=>hk (by rw[e]))⟩⟩;rw[hfin];refine⟨by rw[c8_len,hll,Nat.mul_one],.inr ⟨g,n,_,rfl,hb,setRow_heap w g cur _ _ _ hg,zw8 _,hcm,by simp[c8_len,hll],?_⟩⟩;rw[Nat.mul_one];exact List.take_of_length_le (by simp[c8_len,hll])
theorem eff_old {a w w':World} {g i:Nat} {s:Value} {e:Int} (h:Ext a w) (k:Eff w w' g s i e) (hg:a.heap.size≤g):Ext a w':=ext_grown h k.2 (fun j hj=>by obtain rfl:=zw13 hj;exact hg)
def APost (w:World) (R:AR) (e:Ending) (w':World):Prop:=
 Ext w w'∧match R with
 | .bad f=>e= .returned (.tuple #[.slice none 0 0,.int .i64 f])∧f≠0
 | .ok zs=>∃g,e= .returned (.tuple #[.slice (some ⟨g,0,none⟩) zs.length zs.length,.int .i64 0])∧Wire.Own w w' (.slice (some ⟨g,0,none⟩) zs.length zs.length) zs
def ARel (w2 w3:World) (gx n:Nat) (l:List (Nat × List Nat)) (pv:Value) (iv:Value) (wr:World):Prop:=
 ∃q:Nat,q≤l.length∧iv= .int .i64 (q:Int)∧wr.ownsRow w3.heap.size 5 1 (.slice (some ⟨gx,0,none⟩) n n) n (c8 ((l.take q).foldl (fun x p=>lay x p.1 p.2) (List.replicate n 0)))∧POwn w2 wr pv l∧Ext w3 wr
theorem pcells_at (l:List (Nat × List Nat)):∀q,(h:q<l.length)→(pcells l)[q*2]? =some (.int .i64 ((l[q]).1:Int))∧(pcells l)[q*2+1]? =some (.string (strOf (l[q]).2)):=by
 induction l with
 | nil=>intro q h;simp at h
 | cons p l ih=>
  intro q h;have e:pcells (p::l)= .int .i64 (p.1:Int):: .string (strOf p.2)::pcells l:=by simp[pcells]
  rw[e]
  cases q with
  | zero=>exact⟨rfl,rfl⟩
  | succ q=>
   have:=ih q (by simpa using h);rw[show(q+1)*2=q*2+1+1 from by omega]
   simpa using this
theorem apply (A B:Option Addr) (m c N cd:Nat) (xs ds:List Nat) (most:Int) (w:World) (hA:Bs w A m xs) (hB:Bs w B N ds) (hnil:B=none→N=0∧cd=0) (hm:m≤1000000) (hN:N≤1000000) (hm1: -9223372036854775808≤most) (hm2:most≤1000000):
  Calls Tryz.prog 44 #[.slice A m c,.slice B N cd,.int .i64 most] w (APost w (applied xs ds most)):=by
 have HA:=zh hA;have HB:=zh hB;have HNIL:=zh hnil;have hdl:ds.length=N:=hB.1;have HDL:=zh hdl;clear hA hB hnil hdl;obtain⟨R,hR⟩:∃R,R=applied xs ds most:=⟨_,rfl⟩;rw[←hR];have HR:=zh hR;clear hR;go_enter Tryz.func44,Tryz.ntmps44;go_wp2_with fail;refine(of B N cd ds w HB.out HNIL.out (by omega)).mono ?_;rintro e w1 ⟨g,A1,c1,rfl,hg,hr,hrb,hE1⟩;have HRD:=zh hr;have HRB:=zh hrb;have HE1:=zh hE1;clear hr hrb hE1;go_wp2_with fail;refine(int g N c1 0 A1 ds w1 HRD.out HRB.out.1 (by omega) (by omega)).mono ?_;rintro e w2 ⟨n,j,err,rfl,hz,hE2,hl⟩;rw[zw28]at hl;have hx2:=eff_old HE1.out hE2 hg;have HE2:=zh hE2;have HX2:=zh hx2;clear hE2 hx2;cases hLM:lim (vr 0 0 ds)with
 | short=>
  rw[hLM]at hl;obtain⟨rfl,rfl,rfl⟩:=hl;have HRR:Hid (R= .bad 3):=zh (by rw[HR.out];unfold applied;rw[hLM]);clear hLM;go_wp2_with fail;refine(err_any g _ (0+0) 3 w2 HE2.out.1).mono ?_;rintro e w3 ⟨rfl,rfl⟩;go_wp2_with fail;refine(err_any g _ (0+0) 3 w2 HE2.out.1).mono ?_;rintro e w3 ⟨rfl,rfl⟩;go_wp2_with fail
  go_ret2
  exact⟨HX2.out,by rw[HRR.out];exact⟨rfl,by decide⟩⟩
 | form=>
  rw[hLM]at hl;obtain⟨rfl,rfl,rfl⟩:=hl;have HRR:Hid (R= .bad 4):=zh (by rw[HR.out];unfold applied;rw[hLM]);clear hLM;go_wp2_with fail;refine(err_any g _ (0+0) 4 w2 HE2.out.1).mono ?_;rintro e w3 ⟨rfl,rfl⟩;go_wp2_with fail;refine(err_any g _ (0+0) 4 w2 HE2.out.1).mono ?_;rintro e w3 ⟨rfl,rfl⟩;go_wp2_with fail
  go_ret2
  exact⟨HX2.out,by rw[HRR.out];exact⟨rfl,by decide⟩⟩
 | ok v kk=>
  rw[hLM]at hl;obtain⟨rfl,rfl,rfl⟩:=hl;have HLM:=zh hLM;clear hLM;go_wp2_with fail;refine(err_any g _ (0+j) 0 w2 HE2.out.1).mono ?_;rintro e w3 ⟨rfl,rfl⟩;by_cases hbig:most<(n:Int)
  ·have HRR:Hid (R= .bad 6):=zh (by rw[HR.out];unfold applied;rw[HLM.out];simp only;rw[if_pos hbig])
   go_wp2_with fail
   go_ret2
   exact⟨HX2.out,by rw[HRR.out];exact⟨rfl,by decide⟩⟩
  ·have hbb:¬most<(n:Int):=hbig
   have hn6:n≤1000000:=by omega
   obtain⟨_,hk1,_,hk2⟩:=vr_ok (mem_small HB.out.2.1) (lim_ok HLM.out);rw[HDL.out]at hk2;go_wp2_with fail;refine(literals g n N c1 (0+j) A1 ds w2 HE2.out.1 (by omega) (HRB.out.eff HE2.out.2) hN (by omega)).mono ?_;intro e w3 hL;rw[Nat.zero_add]at hL;obtain⟨hg3,hL⟩:=hL;have HX3:Hid (Ext w w3):=zh (ext_grown HX2.out hg3 (fun q hq=>by obtain rfl:=zw13 hq;exact hg));clear hg3;cases hLT:lits n 0 (ds.drop j)with
   | bad f=>
    rw[hLT]at hL;obtain⟨rfl,hf⟩:=hL;have hf3:(f != 0)=true:=by rw[bne_iff_ne];exact hf
    have HF:=zh hf;have HRR:Hid (R= .bad f):=zh (by rw[HR.out];unfold applied;rw[HLM.out];simp only;rw[if_neg (show ¬most<(n:Int)by omega),hLT]);clear hf hLT hk1;go_wp2_with fail
    go_ret2
    exact⟨HX3.out,by rw[HRR.out];exact⟨rfl,HF.out⟩⟩
   | ok l=>
    rw[hLT]at hL;obtain⟨pv,rfl,hO,hP⟩:=hL;have HO:=zh hO;have HP:=zh hP;have HRR:Hid (R=if vb n++enc (folded n l)=ds then .ok (mix xs (folded n l))else .bad 4):=zh (by rw[HR.out];unfold applied;rw[HLM.out];simp only;rw[if_neg (show ¬most<(n:Int)by omega),hLT]);obtain⟨AP,cp,rfl,hcp1,hcp2,hAP⟩:=own_shape hO;obtain⟨i0,hi0,hz0,hz1,hz2⟩:=info_parts info8;have HQ0:Hid (i0.bytes*n≤281474976710656):=zh (by rw[hz2];omega);have HQ1:Hid (n≤maxLen):=zh (by unfold maxLen;omega);have HI:=zh (And.intro hi0 (And.intro hz0 hz1));clear hi0 hz0 hz1 hz2;have HZ:Hid ((madeCells (Value.int .u8 0).cells (n*1)).toList=c8 (List.replicate n 0)):=zh (by
     rw[Nat.mul_one];have:=toList_madeCells_one (.int .u8 0) n;rw[show(Value.int .u8 0).cells= #[.int .u8 0]from rfl,this];simp[c8])
    have HAP:=zh hAP;clear hO hP hLT hk1 hAP;go_wp2_with (first | (at_make;refine wpList_make_full w3 rfl (.tmp 36) (.tmp 36) 48 rfl w3.heap.size 5 i0 (.int .u8 0) 1 Tryz.underlying48 HI.out.1 HI.out.2.1 HI.out.2.2 .i64 .i64 (n:Int) (n:Int) n rfl rfl rfl rfl HQ0.out HQ1.out (zw8 _) ?_;intro w4 hown4 hg4;rw[HZ.out]at hown4))
    have HO4:=zh (own_ext HO.out (ext_grown (zxr w3) hg4 (fun _ hk=>by cases hk)));have HE4:=zh (ext_grown (zxr w3) hg4 (fun _ hk=>by cases hk));have HOW:=zh hown4;have hcp:l.length≤9223372036854775807:=by unfold maxLen at hcp2;omega
    clear hown4 hg4
    go_loopw [40] (fun iv wr=>ARel w2 w3 w3.heap.size n l (.slice AP l.length cp) iv wr) (fun iv _=>l.length-(intOf iv).toNat)
    case atStart=>exact⟨0,Nat.zero_le _,rfl,HOW.out,HO4.out,HE4.out⟩
    case round=>
     clear HO4 HE4 HOW;obtain⟨q,hq,rfl,hX,hO,hE⟩:=hrel;have HX:=zh hX;have HO4:=zh hO;have HE4:=zh hE;clear hX hO hE;by_cases hlt:q<l.length
     ·obtain⟨gp,rfl,hgp⟩:=HAP.out (by omega)
      have hgp3:=(zw23 HO.out gp rfl).2;have hpc:=pcells_at l q hlt;have c0:=(HO4.out.cellAt (q*2) (by omega)).trans hpc.1;have c1:=(HO4.out.cellAt (q*2+1) (by omega)).trans hpc.2;have hp:=HP.out (l[q]) (zw25 hlt);have HTK:Hid (l.take (q+1)=l.take q++[l[q]]):=zh (List.take_succ_eq_append_getElem hlt);have k0:(0:Int)≤(q:Int):=by omega
      have k1:(q:Int)<(l.length:Int):=by omega
      clear hpc hcp1 hcp2;generalize l[q]=p at*;obtain⟨pa,py⟩:=p;dsimp only at c0 c1 hp;obtain⟨hp1,hp2⟩:=hp;have HP2:=zh hp2;clear hp2;have hSl:(strOf py).size≤n-pa:=by rw[strOf_size];omega
      have HSY:Hid (natsOf (strOf py)=py):=zh (nats_strOf (small_mem HP2.out));have p0:(0:Int)≤(pa:Int):=by omega
      have p1:(pa:Int)≤(n:Int):=by omega
      have HXA:=zh (own_ext HX.out (zxd (zxa (zxr wr) (.cells #[.int .i64 (pa:Int),.string (strOf py)] 152))));generalize strOf py=S at*;by_cases hpn:pa=n
      ·obtain rfl:pa=n:=hpn
       go_wp2_with fail;refine wp_still_tail 6 (by kernel_rfl) (by kernel_rfl) ?_;simp only[List.take_succ_cons,zw29,List.drop_succ_cons,zw28]
       repeat still_step
       refine wpStill_nil ?_;obtain⟨w7,hrun,hX7,hg7⟩:=run_lay w3.heap.size w3.heap.size pa pa _ S HXA.out (by omega) (.slice (some ⟨w3.heap.size,0,none⟩) 0 0) (.inl ⟨by omega,_,_,_,rfl⟩) 3;have HX7:=zh hX7;have hgE:=zh (ext_grown (zxd (zxa HE4.out (.cells #[.int .i64 (pa:Int),.string S] 152))) hg7 (fun j hj=>by obtain rfl:=zw13 hj;exact zw8 _));have HO7:=zh (zw24 (own_ext HO4.out (zxd (zxa (zxr wr) (.cells #[.int .i64 (pa:Int),.string S] 152)))) hg7 (.inr (by intro e;simp[Value.ownBlock]at e;omega)));have HRUN:=zh hrun;clear hrun hX7 hg7;refine wpList_of_copy rfl (.tmp 47) (.tmp 49) 48 9 rfl _ _ rfl rfl HRUN.out ?_;go_wp2_with fail
       go_roundw
       case rel=>exact⟨q+1,hlt,by go_num,by rw[HTK.out,List.foldl_append];have e:=HX7.out;rw[HSY.out]at e;exact e,HO7.out,hgE.out⟩
       case measure=>simp[intOf];omega
      ·have p2:(pa:Int)<(n:Int):=by omega
       have p3:¬n=pa:=by omega
       go_wp2_with fail;refine wp_still_tail 6 (by kernel_rfl) (by kernel_rfl) ?_;simp only[List.take_succ_cons,zw29,List.drop_succ_cons,zw28]
       repeat still_step
       refine wpStill_nil ?_;obtain⟨w7,hrun,hX7,hg7⟩:=run_lay w3.heap.size w3.heap.size n pa _ S HXA.out (by omega) (.slice (some ⟨w3.heap.size,pa,none⟩) (n-pa) (n-pa)) (.inr rfl) 3;have HX7:=zh hX7;have hgE:=zh (ext_grown (zxd (zxa HE4.out (.cells #[.int .i64 (pa:Int),.string S] 152))) hg7 (fun j hj=>by obtain rfl:=zw13 hj;exact zw8 _));have HO7:=zh (zw24 (own_ext HO4.out (zxd (zxa (zxr wr) (.cells #[.int .i64 (pa:Int),.string S] 152)))) hg7 (.inr (by intro e;simp[Value.ownBlock]at e;omega)));have HRUN:=zh hrun;clear hrun hX7 hg7;refine wpList_of_copy rfl (.tmp 47) (.tmp 49) 48 9 rfl _ _ rfl rfl HRUN.out ?_;go_wp2_with fail
       go_roundw
       case rel=>exact⟨q+1,hlt,by go_num,by rw[HTK.out,List.foldl_append];have e:=HX7.out;rw[HSY.out]at e;exact e,HO7.out,hgE.out⟩
       case measure=>simp[intOf];omega
     ·obtain rfl:q=l.length:=by omega
      have HXL:Hid ((folded n l).length=n):=zh (by unfold folded;rw[fold_len _ _ (fun p hp=>by rw[List.length_replicate];exact(HP.out p hp).1),List.length_replicate]);have HXS:Hid (∀j,(folded n l).getD j 0<256):=zh (small_mem (fold_small l _ (fun c hc=>by have:=List.eq_of_mem_replicate hc;omega) (fun p hp=>(HP.out p hp).2)));have HBX:Hid (Bs wr (some ⟨w3.heap.size,0,none⟩) n (folded n l)):=zh (by
       have:=HX.out;rw[List.take_length]at this;exact Bs.own this HXS.out)
      have hgx:=(zw23 HX.out w3.heap.size rfl).2;have henc:=encode w3.heap.size n (folded n l) wr (by rw[HXL.out];exact HBX.out) hgx (by rw[HXL.out];exact hn6) (by rw[HXL.out];exact zw8 _) (by omega);rw[HXL.out]at henc;have HENC:=zh henc;have HSM:Hid (∀j,(vb n++enc (folded n l)).getD j 0<256):=zh (small_app (vb_byte n) (small_mem (enc_small _ _ (zw8 _) (mem_small HXS.out))));have HML:=zh (mix_len xs (folded n l));have HMS:=zh (mix_small HA.out.2.1 HXS.out);clear henc HX hcp1 hcp2;generalize folded n l=X at*;obtain⟨D,hD⟩:∃D,D=vb n++enc X:=⟨_,rfl⟩;rw[←hD]at HENC HSM;have HD:=zh hD;clear hD;have HX4:=zh (zxt HX3.out HE4.out);go_wp2_with fail;refine HENC.out.mono ?_;rintro e w5 ⟨g5,c5,rfl,_,_,hg5,hO5,hE5⟩;have HB5:=zh (Own.bs hO5 HSM.out);have HX5:=zh (zxt HX4.out hE5);have HBX5:=zh (HBX.out.ext hE5);clear hO5 hE5;by_cases heq:D=ds
      ·subst heq
       have HRR2:Hid (R= .ok (mix xs X)):=zh (by rw[HRR.out,HD.out,if_pos rfl]);clear HRR;go_wp2_with fail;refine(same_yes (some ⟨g5,0,none⟩) B D.length c5 N cd D w5 HB5.out (HB.out.ext HX5.out)).mono ?_;rintro e w6 ⟨rfl,rfl⟩;go_wp2_with fail;refine(xor A (some ⟨w3.heap.size,0,none⟩) m c n n xs X w5 (HA.out.ext HX5.out) HBX5.out (by omega) (by omega)).mono ?_;rintro e w6 ⟨g6,rfl,hg6,hO6,hE6⟩;have HO6:=zh hO6;have HE6:=zh hE6;clear hO6 hE6;generalize mix xs X=M at*;go_wp2_with fail
       go_ret2
       exact⟨zxt HX5.out HE6.out,by rw[HRR2.out];exact⟨g6,rfl,own_low HO6.out HX5.out.size⟩⟩
      ·have HRR2:Hid (R= .bad 4):=zh (by rw[HRR.out,←HD.out,if_neg heq])
       have HNE:=zh heq;clear HRR heq;go_wp2_with fail;refine(same_no (some ⟨g5,0,none⟩) B D.length c5 N cd D ds w5 HB5.out (HB.out.ext HX5.out) HNE.out).mono ?_;rintro e w6 ⟨rfl,rfl⟩;go_wp2_with fail
       go_ret2
       exact⟨HX5.out,by rw[HRR2.out];exact⟨rfl,by decide⟩⟩
def MRel (w:World) (zs:List Nat) (sv iv:Value) (wr:World):Prop:=∃k:Nat,k≤zs.length∧sv= .string (strOf (zs.take k))∧iv= .int .i64 (k:Int)∧Ext w wr
def NRel (l:List Nat) (from_ n:Nat) (iv:Value):Prop:=∃k:Nat,from_≤k∧k≤from_+n∧k≤l.length∧iv= .int .i64 (k:Int)∧k-from_≤zr (l.drop from_)
end Go.Proofs.YtidnboeihkeljaaGreatDoor.Delta
