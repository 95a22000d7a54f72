import Derived.Test.YtjckpdepffejnaaGreatDoorJ02
import Derived.Test.YtjckpdepffejnaaGreatDoorRows
import Derived.JoinedOf
open Array renaming size->I
open Bool renaming false->OU,true->OV
open Go renaming Calls->M,TypeId->bI,Value->a7
open Go.Ending renaming returned->Q
open Go.IntKind renaming i64->R
open Go.Obj renaming cells->E
open Go.Proofs.Tryz renaming prog->O
open Go.RowKit renaming Below->J,intOf->bG
open Go.Value renaming agg->bz,int->OP,pointer->bq,slice->Z,tuple->ay
open Go.World renaming alloc->bu,cell?->V,heap->G,setCell->A
open Int renaming toNat->K
open List renaming getD->U,length->OG
open Nat renaming le_of_lt->ve
open Option renaming none->Y,some->OH
open Option.some renaming inj->j3
namespace Go.Proofs.YtjckpdepffejnaaGreatDoor
open Go.Proofs.Tryz
set_option maxRecDepth 100000
set_option maxHeartbeats 4000000
namespace DWs
theorem k1:(Rows.deskWordsRow.inPlace==prog.inPlace 5)=OV:=ah
theorem k2:(Rows.deskWordsRow.unfollowed==prog.unfollowed 5)=OV:=ah
theorem k3:(Rows.deskWordsRow.recurses==prog.recurses 5)=OV:=ah
theorem k4:(Rows.deskWordsRow.named==prog.varsNamed 5)=OV:=ah
theorem facts:joinedFacts O 5 Tryz.f5 Rows.deskWordsSpec Rows.deskWordsRow=OV:=by unfold joinedFacts;rw[k1,k2,k3,k4];kernel_rfl
theorem Oz:Tryz.pinned.checked.prog.funcNamed Rows.deskWordsRow.func=OH 5:=ah
theorem inst:Tryz.f5.isInstance Tryz.pinned.checked.prog Rows.deskWordsRow.origin Rows.deskWordsRow.targs:=of_decide_eq_true ah
theorem wrap:Tryz.f5.isWrapper Tryz.pinned.checked.prog Rows.deskWordsRow.wrapper Rows.deskWordsRow.mainSum:=by
 unfold Func.isWrapper
 first|(rw[aM (by decide+kernel)];kernel_rfl)|(rw[aJ (by decide+kernel)];exact⟨rfl,rfl⟩)
end DWs
end Go.Proofs.YtjckpdepffejnaaGreatDoor
