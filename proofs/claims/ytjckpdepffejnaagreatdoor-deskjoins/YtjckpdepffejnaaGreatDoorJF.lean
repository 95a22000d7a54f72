import Derived.Test.YtjckpdepffejnaaGreatDoorJ02
import Derived.Test.YtjckpdepffejnaaGreatDoorRows
import Derived.JoinedOf
open Array renaming size->I
open Bool renaming false->O4,true->O5
open Classical renaming byContradiction->fo
open Go renaming Addr->bB,Calls->M,TypeId->bI,Value->a7
open Go.Ending renaming returned->Q
open Go.IntKind renaming i64->R
open Go.Obj renaming cells->E
open Go.Proofs.Tryz renaming prog->J
open Go.RowKit renaming Below->O,intOf->bG
open Go.Value renaming agg->bz,bool->bA,int->U,pointer->bq,slice->Z,tuple->ay
open Go.World renaming alloc->bu,heap->G,setCell->O8
open Int renaming toNat->K
open List renaming getD->OZ,getD_eq_getElem?_getD->bR,length->OQ,mem_append->bw,mem_append_left->kr,mem_append_right->ko,take_append_drop->Cq
open Nat renaming le_of_lt->uh,sub_self->Jl
open Option renaming none->Y,some->OR
open Option.some renaming inj->kg
namespace Go.Proofs.YtjckpdepffejnaaGreatDoor
open Go.Proofs.Tryz
set_option maxRecDepth 100000
set_option maxHeartbeats 16000000
namespace DJs
theorem k1:(Rows.deskJoinsRow.inPlace==prog.inPlace 4)=O5:=ah
theorem k2:(Rows.deskJoinsRow.unfollowed==prog.unfollowed 4)=O5:=ah
theorem k3:(Rows.deskJoinsRow.recurses==prog.recurses 4)=O5:=ah
theorem k4:(Rows.deskJoinsRow.named==prog.varsNamed 4)=O5:=ah
theorem facts:joinedFacts J 4 Tryz.f4 Rows.deskJoinsSpec Rows.deskJoinsRow=O5:=by unfold joinedFacts;rw[k1,k2,k3,k4];kernel_rfl
theorem OF:Tryz.pinned.checked.prog.funcNamed Rows.deskJoinsRow.func=OR 4:=ah
theorem inst:Tryz.f4.isInstance Tryz.pinned.checked.prog Rows.deskJoinsRow.origin Rows.deskJoinsRow.targs:=of_decide_eq_true ah
theorem wrap:Tryz.f4.isWrapper Tryz.pinned.checked.prog Rows.deskJoinsRow.wrapper Rows.deskJoinsRow.mainSum:=by
 unfold Func.isWrapper
 first|(rw[aN (by decide+kernel)];kernel_rfl)|(rw[aJ (by decide+kernel)];exact⟨rfl,rfl⟩)
end DJs
end Go.Proofs.YtjckpdepffejnaaGreatDoor
