/- The document's chunk: Put, walked. -/
import Derived.Test.YtbopblbhjcemaaaGreatDoorF08
import Derived.Test.YtbopblbhjcemaaaGreatDoorLzV
set_option maxHeartbeats 16000000
set_option maxRecDepth 100000
set_option linter.all false
open Go.ChangeShapes Go.WideShapes Go.ChangeAt Go.RowKit
namespace Go.Proofs.YtbopblbhjcemaaaGreatDoor.Chk
open Wire
theorem hmxF:Tryz.prog.follows .mixedOrders=true:=by kernel_rfl
def SE (w w':World):Prop:=Ext w w'
theorem two_new (w:World) (t:TypeId) (a b:Nat) (ha:a<256) (hb:b≤1):Bs (w.alloc (.cells #[.int .u8 (a:Int),.int .u8 (b:Int)] t)) (some ⟨w.heap.size,0,none⟩) 2 [a,b]:=by
  refine⟨rfl,fun j=>?_,fun _=>⟨w.heap.size,0,rfl,by simp,fun j hj=>?_⟩⟩
  · rcases j with _ | _ | j
    · exact ha
    · show b<256;omega
    · simp
  · rw[Nat.zero_add,World.cell?_alloc_new]
    rcases j with _ | _ | j
    · rfl
    · rfl
    · omega
theorem refPutC (kind : Nat) (hk : kind < 256) (s : ByteArray) (w : World) (hs : s.size ≤ 900000) :
    Calls Tryz.prog 73 #[.int .u8 (kind:Int),.string s] w fun e w'=>e= .returned (.string (strOf (chunk kind (natsOf s))))∧Ext w w':=by
  have HPK:=zh (fun W=>Lz.refPack s W (by omega));obtain⟨ys,hys⟩:∃ys,ys=natsOf s:=⟨_,rfl⟩;rw[←hys]at HPK ⊢;have hyl:ys.length=s.size:=by rw[hys,natsOf_len]
  have HYS:Hid (∀j,ys.getD j 0<256):=zh (by rw[hys];exact natsOf_small s);have HSY:Hid (strOf ys=s):=zh (by rw[hys,strOf_nats]);have hbl:=body_len ys;have hhow:=how_le ys;clear hys;obtain⟨zs,hzs⟩:∃zs,zs=Lz.pk ys 0 0:=⟨_,rfl⟩;rw[←hzs]at HPK;have HZS:=zh hzs;have hzl:(strOf zs).size=zs.length:=strOf_size zs;clear hzs;generalize hZZ:strOf zs=Z at*;have HZZ:=zh hZZ;clear hZZ;have HYL:=zh hyl;go_enter Tryz.func73,Tryz.ntmps73;go_wp2_with fail;refine(HPK.out _).mono ?_;rintro e w1 ⟨rfl,hE⟩;have HE:=zh hE;clear hE hyl
  go_upto_if 16 with fail
  go_cut [5,6]from 7 to 40 (fun hv bv wx=>hv= .int .u8 (how ys:Int)∧bv= .string (strOf (body ys))∧Ext w wx)
  case first=>
    by_cases hlt:zs.length<s.size
    · have HBO : Hid (how ys = 1 ∧ body ys = zs) := zh (by
        have h2:(Lz.pk ys 0 0).length<ys.length:=by rw[←HZS.out,HYL.out];exact hlt
        refine⟨by unfold how;rw[if_pos h2],by unfold body;rw[if_pos h2,←HZS.out]⟩)
      have hlt2:Z.size<s.size:=by omega
      go_wp2_with fail;go_meet;exact⟨by rw[HBO.out.1];rfl,by rw[HBO.out.2,HZZ.out],HE.out⟩
    · have HBO : Hid (how ys = 0 ∧ body ys = ys) := zh (by
        have h2:¬(Lz.pk ys 0 0).length<ys.length:=by rw[←HZS.out,HYL.out];exact hlt
        refine⟨by unfold how;rw[if_neg h2],by unfold body;rw[if_neg h2]⟩)
      have hlt2:¬Z.size<s.size:=by omega
      go_wp2_with fail;go_meet;exact⟨by rw[HBO.out.1];rfl,by rw[HBO.out.2,HSY.out],HE.out⟩
  case rest=>
    obtain⟨rfl,rfl,hE⟩:=hcut;have HBY:=zh (body_small HYS.out);have hbs:=strOf_size (body ys);have hys2:=HYL.out;obtain⟨S0,hS0⟩:∃S,S=strOf [kind,how ys]:=⟨_,rfl⟩;obtain⟨S1,hS1⟩:∃S,S=strOf (vb ys.length):=⟨_,rfl⟩;obtain⟨S2,hS2⟩:∃S,S=strOf (vb (body ys).length):=⟨_,rfl⟩;obtain⟨S3,hS3⟩:∃S,S=strOf (body ys):=⟨_,rfl⟩;have hz0:S0.size=2:=by rw[hS0,strOf_size];rfl
    have hz1:S1.size≤10:=by rw[hS1,strOf_size];exact vb_ten (by omega)
    have hz2:S2.size≤10:=by rw[hS2,strOf_size];exact vb_ten (by omega)
    have hz3:S3.size≤900000:=by rw[hS3,strOf_size];omega
    have HV1:=zh (fun W=>Wire.refVarint ys.length (by omega) W);have HV2:=zh (fun W=>Wire.refVarint (body ys).length (by omega) W);rw[←hS1]at HV1;rw[←hS2]at HV2;have HFIN:Hid (S0++S1++S2++S3=strOf (head kind ys)):=zh (by
      rw[hS0,hS1,hS2,hS3,←strOf_app,←strOf_app,←strOf_app]
      congr 1
      simp[head,zw7])
    have HCV:Hid (∀W g c,Bs W (some ⟨g,0,none⟩) 2 [kind,how ys]→(convert 22 9 (.slice (some ⟨g,0,none⟩) 2 c)).run Tryz.prog W= .ok (.string S0) W):=zh (fun W g c h=>by rw[hS0];exact Com.conv8 h c);have hq1:¬9223372036854775807<S0.size+S1.size:=by omega
    have hq2:¬9223372036854775807<S0.size+S1.size+S2.size:=by omega
    have hq3:¬9223372036854775807<S0.size+S1.size+S2.size+S3.size:=by omega
    rw[HYL.out]at HV1;rw[←hS3]at hbs ⊢;rw[←hbs]at HV2;have hw1:IntKind.u64.wrap (s.size:Int)=(s.size:Int):=by rw[IntKind.wrap_u64];omega
    have hw2:IntKind.u64.wrap (S3.size:Int)=(S3.size:Int):=by rw[IntKind.wrap_u64];omega
    have HSM:=zh (head_small hk HYS.out);have HSZ:Hid ((S0++S1++S2++S3).size≤1000000):=zh (by rw[zw43,zw43,zw43];omega);have HE:=zh hE;clear hE hS0 hS1 hS2 hS3 hbs hys2 hz0 hz1 hz2 hz3;go_upto_region 7 with fail
    go_cut [8]from 18 to 40 (fun sv wx=>sv= .string (S0++S1++S2++S3)∧Ext w wx)
    case first=>
      have HX:=zh (show SE w (World.drew _)from zxd HE.out);refine zw38 (S:=SE w) hmxF HX.out (fun _=>?_);generalize World.drew _=WA at*
      iterate 9
       refine zqT (v:=?_) HX.out rfl ?_ ?_;rotate_left
       · intro w' hSw;go_simp;try with_reducible rfl
       (try simp only[Act.put,zzA,zzB,zzC])
      refine zw41 (rs:=[2,7]) (by kernel_rfl) (by simp) ?_;refine zqC rfl (fun K hK=>?_) (zqC rfl (fun K hK=>?_) zw42)
      · go_simp
        have HG:=zh (show Bs (WA.alloc (.cells #[.int .u8 (kind:Int),.int .u8 (how ys:Int)] 5)) (some ⟨WA.heap.size,0,none⟩) 2 [kind,how ys]from two_new WA 5 kind (how ys) hk hhow);have HX:=zh (show SE w (WA.alloc (.cells #[.int .u8 (kind:Int),.int .u8 (how ys:Int)] 5))from zxa HX.out _);generalize WA.alloc (.cells #[.int .u8 (kind:Int),.int .u8 (how ys:Int)] 5)=WA at*;skip;refine hK.out _ _ HX.out fun _=>?_;clear hK K
        (try simp only[Act.put,zzA,zzB,zzC])
        refine zw41 (rs:=[3,7]) (by kernel_rfl) (by simp) ?_;refine zqC rfl (fun K hK=>?_) (zqC rfl (fun K hK=>?_) zw42)
        · have hcv:=HCV.out _ _ 2 HG.out
          go_simp;refine hK.out _ _ HX.out fun _=>?_;clear hK K
          (try simp only[Act.put,zzA,zzB,zzC])
          refine zqO (i:=7) (by kernel_rfl) rfl fun K hK=>?_;go_simp;refine(HV1.out _).mono ?_;rintro e WA ⟨rfl,hE⟩;have HX:=zh (show SE w WA from zxt HX.out hE);have HG:=zh (HG.out.ext hE);clear hE
          (try go_wp2_with fail)
          refine hK.out _ _ HX.out fun _=>?_;clear hK K
          (try simp only[Act.put,zzA,zzB,zzC])
          (refine zqT (v:=?_) HX.out rfl ?_ ?_);rotate_left
          · intro w' hSw;go_simp;try with_reducible rfl
          (try simp only[Act.put,zzA,zzB,zzC])
          refine zqO (i:=12) (by kernel_rfl) rfl fun K hK=>?_;go_simp;refine(HV2.out _).mono ?_;rintro e WA ⟨rfl,hE⟩;have HX:=zh (show SE w WA from zxt HX.out hE);have HG:=zh (HG.out.ext hE);clear hE
          (try go_wp2_with fail)
          refine hK.out _ _ HX.out fun _=>?_;clear hK K
          (try simp only[Act.put,zzA,zzB,zzC])
          iterate 3
           refine zqT (v:=?_) HX.out rfl ?_ ?_;rotate_left
           · intro w' hSw;go_simp;try with_reducible rfl
           (try simp only[Act.put,zzA,zzB,zzC])
          refine zw39 (by kernel_rfl) ?_ _;go_wp2_with fail;go_meet;exact⟨rfl,HX.out⟩
        · go_simp
          refine(HV1.out _).mono ?_;rintro e WA ⟨rfl,hE⟩;have HX:=zh (show SE w WA from zxt HX.out hE);have HG:=zh (HG.out.ext hE);clear hE
          (try go_wp2_with fail)
          refine hK.out _ _ HX.out fun _=>?_;clear hK K
          (try simp only[Act.put,zzA,zzB,zzC])
          refine zw41 (rs:=[3,12]) (by kernel_rfl) (by simp) ?_;refine zqC rfl (fun K hK=>?_) (zqC rfl (fun K hK=>?_) zw42)
          · have hcv:=HCV.out _ _ 2 HG.out
            go_simp;refine hK.out _ _ HX.out fun _=>?_;clear hK K
            (try simp only[Act.put,zzA,zzB,zzC])
            (refine zqT (v:=?_) HX.out rfl ?_ ?_);rotate_left
            · intro w' hSw;go_simp;try with_reducible rfl
            (try simp only[Act.put,zzA,zzB,zzC])
            refine zqO (i:=12) (by kernel_rfl) rfl fun K hK=>?_;go_simp;refine(HV2.out _).mono ?_;rintro e WA ⟨rfl,hE⟩;have HX:=zh (show SE w WA from zxt HX.out hE);have HG:=zh (HG.out.ext hE);clear hE
            (try go_wp2_with fail)
            refine hK.out _ _ HX.out fun _=>?_;clear hK K
            (try simp only[Act.put,zzA,zzB,zzC])
            iterate 3
             refine zqT (v:=?_) HX.out rfl ?_ ?_;rotate_left
             · intro w' hSw;go_simp;try with_reducible rfl
             (try simp only[Act.put,zzA,zzB,zzC])
            refine zw39 (by kernel_rfl) ?_ _;go_wp2_with fail;go_meet;exact⟨rfl,HX.out⟩
          · go_simp
            refine(HV2.out _).mono ?_;rintro e WA ⟨rfl,hE⟩;have HX:=zh (show SE w WA from zxt HX.out hE);have HG:=zh (HG.out.ext hE);clear hE
            (try go_wp2_with fail)
            refine hK.out _ _ HX.out fun _=>?_;clear hK K
            (try simp only[Act.put,zzA,zzB,zzC])
            refine zqO (i:=3) (by kernel_rfl) rfl fun K hK=>?_;have hcv:=HCV.out _ _ 2 HG.out;go_simp;refine hK.out _ _ HX.out fun _=>?_;clear hK K
            (try simp only[Act.put,zzA,zzB,zzC])
            iterate 4
             refine zqT (v:=?_) HX.out rfl ?_ ?_;rotate_left
             · intro w' hSw;go_simp;try with_reducible rfl
             (try simp only[Act.put,zzA,zzB,zzC])
            refine zw39 (by kernel_rfl) ?_ _;go_wp2_with fail;go_meet;exact⟨rfl,HX.out⟩
      · go_simp
        refine(HV1.out _).mono ?_;rintro e WA ⟨rfl,hE⟩;have HX:=zh (show SE w WA from zxt HX.out hE);clear hE
        (try go_wp2_with fail)
        refine hK.out _ _ HX.out fun _=>?_;clear hK K
        (try simp only[Act.put,zzA,zzB,zzC])
        refine zw41 (rs:=[2,12]) (by kernel_rfl) (by simp) ?_;refine zqC rfl (fun K hK=>?_) (zqC rfl (fun K hK=>?_) zw42)
        · go_simp
          have HG:=zh (show Bs (WA.alloc (.cells #[.int .u8 (kind:Int),.int .u8 (how ys:Int)] 5)) (some ⟨WA.heap.size,0,none⟩) 2 [kind,how ys]from two_new WA 5 kind (how ys) hk hhow);have HX:=zh (show SE w (WA.alloc (.cells #[.int .u8 (kind:Int),.int .u8 (how ys:Int)] 5))from zxa HX.out _);generalize WA.alloc (.cells #[.int .u8 (kind:Int),.int .u8 (how ys:Int)] 5)=WA at*;skip;refine hK.out _ _ HX.out fun _=>?_;clear hK K
          (try simp only[Act.put,zzA,zzB,zzC])
          refine zw41 (rs:=[3,12]) (by kernel_rfl) (by simp) ?_;refine zqC rfl (fun K hK=>?_) (zqC rfl (fun K hK=>?_) zw42)
          · have hcv:=HCV.out _ _ 2 HG.out
            go_simp;refine hK.out _ _ HX.out fun _=>?_;clear hK K
            (try simp only[Act.put,zzA,zzB,zzC])
            (refine zqT (v:=?_) HX.out rfl ?_ ?_);rotate_left
            · intro w' hSw;go_simp;try with_reducible rfl
            (try simp only[Act.put,zzA,zzB,zzC])
            refine zqO (i:=12) (by kernel_rfl) rfl fun K hK=>?_;go_simp;refine(HV2.out _).mono ?_;rintro e WA ⟨rfl,hE⟩;have HX:=zh (show SE w WA from zxt HX.out hE);have HG:=zh (HG.out.ext hE);clear hE
            (try go_wp2_with fail)
            refine hK.out _ _ HX.out fun _=>?_;clear hK K
            (try simp only[Act.put,zzA,zzB,zzC])
            iterate 3
             refine zqT (v:=?_) HX.out rfl ?_ ?_;rotate_left
             · intro w' hSw;go_simp;try with_reducible rfl
             (try simp only[Act.put,zzA,zzB,zzC])
            refine zw39 (by kernel_rfl) ?_ _;go_wp2_with fail;go_meet;exact⟨rfl,HX.out⟩
          · go_simp
            refine(HV2.out _).mono ?_;rintro e WA ⟨rfl,hE⟩;have HX:=zh (show SE w WA from zxt HX.out hE);have HG:=zh (HG.out.ext hE);clear hE
            (try go_wp2_with fail)
            refine hK.out _ _ HX.out fun _=>?_;clear hK K
            (try simp only[Act.put,zzA,zzB,zzC])
            refine zqO (i:=3) (by kernel_rfl) rfl fun K hK=>?_;have hcv:=HCV.out _ _ 2 HG.out;go_simp;refine hK.out _ _ HX.out fun _=>?_;clear hK K
            (try simp only[Act.put,zzA,zzB,zzC])
            iterate 4
             refine zqT (v:=?_) HX.out rfl ?_ ?_;rotate_left
             · intro w' hSw;go_simp;try with_reducible rfl
             (try simp only[Act.put,zzA,zzB,zzC])
            refine zw39 (by kernel_rfl) ?_ _;go_wp2_with fail;go_meet;exact⟨rfl,HX.out⟩
        · go_simp
          refine(HV2.out _).mono ?_;rintro e WA ⟨rfl,hE⟩;have HX:=zh (show SE w WA from zxt HX.out hE);clear hE
          (try go_wp2_with fail)
          refine hK.out _ _ HX.out fun _=>?_;clear hK K
          (try simp only[Act.put,zzA,zzB,zzC])
          refine zqO (i:=2) (by kernel_rfl) rfl fun K hK=>?_;go_simp;have HG:=zh (show Bs (WA.alloc (.cells #[.int .u8 (kind:Int),.int .u8 (how ys:Int)] 5)) (some ⟨WA.heap.size,0,none⟩) 2 [kind,how ys]from two_new WA 5 kind (how ys) hk hhow);have HX:=zh (show SE w (WA.alloc (.cells #[.int .u8 (kind:Int),.int .u8 (how ys:Int)] 5))from zxa HX.out _);generalize WA.alloc (.cells #[.int .u8 (kind:Int),.int .u8 (how ys:Int)] 5)=WA at*;skip;refine hK.out _ _ HX.out fun _=>?_;clear hK K
          (try simp only[Act.put,zzA,zzB,zzC])
          refine zqO (i:=3) (by kernel_rfl) rfl fun K hK=>?_;have hcv:=HCV.out _ _ 2 HG.out;go_simp;refine hK.out _ _ HX.out fun _=>?_;clear hK K
          (try simp only[Act.put,zzA,zzB,zzC])
          iterate 4
           refine zqT (v:=?_) HX.out rfl ?_ ?_;rotate_left
           · intro w' hSw;go_simp;try with_reducible rfl
           (try simp only[Act.put,zzA,zzB,zzC])
          refine zw39 (by kernel_rfl) ?_ _;go_wp2_with fail;go_meet;exact⟨rfl,HX.out⟩
    case rest=>
      obtain⟨rfl,hE⟩:=hcut;have HE:=zh hE;clear hE;generalize S0++S1++S2++S3=T at*;have hhl:(head kind ys).length=T.size:=by rw[HFIN.out,strOf_size]
      obtain⟨c3,w3,hcv,hc1,hc2,hB3,hE3⟩:=Com.conv_text wc T (by have:=HSZ.out;omega);rw[HFIN.out,nats_strOf (small_mem HSM.out),←HFIN.out]at hB3;have HB3:=zh hB3;have HE3:=zh (zxt HE.out hE3);have HCS:=zh (Crc.rsum (some ⟨wc.heap.size,0,none⟩) T.size c3 (head kind ys) w3 hB3 (by have:=HSZ.out;omega));have HRF:=zh (fun W=>Wire.refFixed (crc (head kind ys)) (crc_lt _) W);have hF4:(strOf (fx (crc (head kind ys)))).size=4:=by rw[strOf_size];rfl
      have hTT:¬9223372036854775807<T.size+(strOf (fx (crc (head kind ys)))).size:=by have:=HSZ.out;omega
      have HOUT:Hid (T++strOf (fx (crc (head kind ys)))=strOf (chunk kind ys)):=zh (by unfold chunk;rw[strOf_app,HFIN.out]);clear hB3 hE3 hhl hF4;generalize strOf (fx (crc (head kind ys)))=F at*;generalize wc.heap.size=G at*;go_wp2_with fail;refine(HCS.out).mono ?_;rintro e w4 ⟨rfl,rfl⟩;clear hcv;go_wp2_with fail;refine(HRF.out _).mono ?_;rintro e w5 ⟨rfl,hE5⟩;have HE5:=zh (zxt HE3.out hE5);clear hE5;go_wp2_with fail;go_ret;exact⟨by rw[←HOUT.out];rfl,HE5.out⟩
end Go.Proofs.YtbopblbhjcemaaaGreatDoor.Chk
