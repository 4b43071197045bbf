
import Derived.Test.YtbopblbhjcemaaaGreatDoorF31
import Derived.Test.YtbopblbhjcemaaaGreatDoorFiG
set_option maxHeartbeats 16000000
set_option maxRecDepth 100000
set_option linter.all false
open Go.ChangeShapes Go.WideShapes Go.ChangeAt Go.RowKit
namespace Go.Proofs.YtbopblbhjcemaaaGreatDoor.Fil
open Wire
open Rec
open Trk (Sl Tv Tk TkV)
open Log (Hv Ev cH cS cV)
structure Rdy (r:Rc) (ts:List ByteArray):Prop where
 fs:r.fs=ts.map natsOf
 win:∀c∈r.tr.cams,∀p∈c,(-2147483648≤p.x∧p.x≤2147483647)∧ -2147483648≤p.y∧p.y≤2147483647
 few:(∀c∈r.tr.cams,c.length≤1000000)∧r.tr.marks.length≤1000000
open Trk (Sl Tv Tk TkV RfV mayT encT Within Small)
open Log (Hv Ev cH cS cV mayH putL encH)
theorem frs_pos {k:Nat} {fs:List (List Nat)} (h:0<fs.length):0<(frs k 0 [] fs).length:=by
 cases fs with
 | nil=>simp at h
 | cons f l=>rw[frs,zw0,tk_eq];have:=Chk.chunk_pos (kd k 0) (dt k 0 [] f);omega
theorem opn_built {r:Rc} {L:List Nat} (hl:Low r) (hm:mayR r) (hL:putL r.N r.evs=some L):
  Opn (built (encH r.x.hd) L (encT r.tr) r.N.toNat r.K.toNat r.fs) r L (pre (encH r.x.hd) L r.N.toNat r.K.toNat).length (lead (encH r.x.hd) L (encT r.tr) r.N.toNat r.K.toNat).length ((lead (encH r.x.hd) L (encT r.tr) r.N.toNat r.K.toNat).length+(frs r.K.toNat 0 [] r.fs).length):=by
 rw[pre_len];obtain⟨m1,m2,m3,m4,m5,m6,m7⟩:=hm;have hN:=(Trk.mayT_parts m3).1;exact⟨rds_built _ _ _ _ _ _ (Log.encH_small _ hl.seed (mem_small (natsOf_small _))) (Log.putL_small hl.efit hL) (Trk.encT_both m3).2 hl.small (by have:=Log.encH_len _ m1 hl.sfit;omega) (Log.putL_len hl.efit (by have:=hl.evs;omega) hL) (Trk.encT_both m3).1 hl.frame (by have:=hl.frames;omega) (by omega) (by omega),hL,hl,⟨m1,m2,m3,m4,m5,m6,m7⟩⟩
end Go.Proofs.YtbopblbhjcemaaaGreatDoor.Fil
