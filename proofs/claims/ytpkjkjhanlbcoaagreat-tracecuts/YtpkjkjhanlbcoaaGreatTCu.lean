import Derived.Test.YtpkjkjhanlbcoaaGreatJ25
open Array renaming size->I
open Bool renaming false->K,true->D
open Go renaming Addr->bG,Calls->J,info_parts->bV,maxLen->bW
open Go.Ending renaming returned->E
open Go.IntKind renaming i64->M4
open Go.Obj renaming cells->R
open Go.Proofs.Tryz renaming prog->Ng
open Go.RowKit renaming Below->C,intOf->bN
open Go.Value renaming agg->bF,int->U,slice->H,tuple->a8
open Go.World renaming alloc->bj,cell?->V,heap->G,ownsRow->aC
open Int renaming eq_ofNat_of_zero_le->bH
open List renaming contains->bR,contains_iff_mem->bP,getD->X,length->L,length_append->va,length_singleton->hW,mem_filter->bM
open Option renaming none->Y,some->Z
namespace Go.Proofs.YtpkjkjhanlbcoaaGreat
set_option maxRecDepth 100000
set_option maxHeartbeats 32000000
open Tryz
namespace TCu
open Go.RowKit W Kp cq
theorem walk (n o more:Int)(a:Option bG)(cc:Nat)(l:List S6)(ab:Option bG)(eK:Nat)(d:List Bool)(w:az)(hl:gn w a l)(eb:wJ w ab d):
 J Ng 9 #[U M4 n,U M4 o,U M4 more,H a (L l) cc,H ab (L d) eK] w fun e w'=>e=E (.bool D)/\C (I (G w)) w w':=by
 obtain⟨g,hg⟩:=xr;have eL:aA (gn w a l):=hl;have eM:aA (wJ w ab d):=eb;have cH:aA (∀T wt,ey T wt->dB T wt (g T wt)):=hg;have ed:aA (oa l):=hl.v6;clear hl hg eb;by_cases fe:250<L l
 ·go_enter func9,ntmps9;go_wp2_with fail;refine(CU w).mono ?_;rintro e w1 ⟨rfl,c9⟩
  have ck:(250:Int)<(L l:Int):=aa;go_wp2_with fail;go_ret;exact⟨rfl,c9⟩
 ·have ck:¬((250:Int)<(L l:Int)):=aa;obtain⟨cM,cN,cO,cP,cQ⟩:=bV CK;have da:aA (L l<=250):=by show _<=_;omega
  go_enter func9,ntmps9;go_wp2_with fail;refine(CU w).mono ?_;rintro e w1 ⟨rfl,c9⟩
  have eN:aA (C (I (G w)) w w1):=c9;clear c9;go_wp2_with fail
  go_loopw [11,12,13] (fun eO ov iv wr=>∃(i:Nat)(bt:Option bG)(rc:Nat)(rb:Option bG)(bx:Nat),i<=L l/\iv=U M4 i/\eO=H bt (L (dQ (l.take i))) rc/\ov=H rb (L (df d 0 (l.take i))) bx/\aA (i9 w wr bt rc (dQ (l.take i)) rb bx (df d 0 (l.take i)))) (fun _ _ iv _=>L l-(bN iv).toNat)
  case atStart=>exact⟨0,Y,0,Y,0,a5 _,rfl,rfl,rfl,⟨bf _ _ _ _,bf _ _ _ _,fun k e=>by simp[Value.ownBlock] at e,eN.o⟩⟩
  case round=>
   obtain⟨i,bt,rc,rb,bx,hi,rfl,rfl,rfl,aB⟩:=hrel;by_cases dm:i<L l
   ·obtain⟨dn,ee,dp,l0,hc⟩:=eL.o aa;obtain⟨cx,_⟩:=hc i dm;subst dp;clear hc;have q0:(0:Int)<=(i:Int):=aa;have q1:(i:Int)<(L l:Int):=aa;have cl:aA (dQ (l.take (i+1))=dQ (l.take i)++if ib (X l i gL)=D then[X l i gL] else[]):=by show _=_;rw[pj l dm,My]
    have cy:aA (df d 0 (l.take (i+1))=df d 0 (l.take i)++i8 d i (X l i gL)):=by show _=_;rw[pj l dm,CP,bz,Nat.zero_add,Nat.min_eq_left aa]
    have cm:aA (L (dQ (l.take i))<=2000/\L (df d 0 (l.take i))<=2000):=by
     have cI:=CO (l.take i)
     have ck:=wG d (l.take i) 0;rw[bz] at cI ck;have:=da.o;show _/\_;omega
    generalize X l i gL=st at*;obtain⟨ad,sR,bn,bo,bp,sn⟩:=st;obtain⟨be,y1,b0,b1,b6,ce⟩:=cx.below aB.o.be l0;dsimp only at be y1 b0 b1 b6 ce;cases hb:ib ⟨ad,sR,bn,bo,bp,sn⟩
    ·have a4:dQ (l.take (i+1))=dQ (l.take i):=by
      have:=cl.o;rw[hb] at this
      simpa using this
     have cn:df d 0 (l.take (i+1))=df d 0 (l.take i):=by
      have:=cy.o;unfold i8 at this
      rw[hb] at this
      simpa using this
     have eP:aA (i9 w wr bt rc (dQ (l.take (i+1))) rb bx (df d 0 (l.take (i+1)))):=by rw[a4,cn];exact aB.o
     have hs:ad=6\/ad=7\/ad=8\/ad=15\/ad=16:=by unfold ib at hb;simp at hb;omega
     rw[<-a4,<-cn];clear cl cy a4 cn cx aB hb cm;rcases hs with rfl|rfl|rfl|rfl|rfl
     all_goals
      go_wp2_with fail;go_roundw
      case rel=>exact⟨i+1,_,_,_,_,aa,aj,rfl,rfl,eP⟩
      case measure=>simp[bN];omega
    ·have a4:aA (dQ (l.take (i+1))=dQ (l.take i)++[⟨ad,sR,bn,bo,bp,sn⟩]):=by
      have:=cl.o;rw[hb] at this
      exact this
     have cn:aA (df d 0 (l.take (i+1))=df d 0 (l.take i)++((if i<L d then[cst (X d i K)] else[])++[⟨ad,sR,bn,bo,bp,sn⟩])):=by
      have:=cy.o;unfold i8 at this
      rw[hb] at this
      exact this
     obtain⟨k6,dq,dr,ds,dt⟩:(ad==6)=K/\(ad==7)=K/\(ad==8)=K/\(ad==15)=K/\(ad==16)=K:=by obtain⟨k6,dq,dr,ds,dt⟩:=wA.1 hb;exact⟨beq_eq_false_iff_ne.2 k6,beq_eq_false_iff_ne.2 dq,beq_eq_false_iff_ne.2 dr,beq_eq_false_iff_ne.2 ds,beq_eq_false_iff_ne.2 dt⟩
     have ef:=cm.o.1;have eg:=cm.o.2;have hM:=da.o;have v:aA (i9 w wr bt rc (dQ (l.take i)) rb bx (df d 0 (l.take i))):=aB.o;have db:I (G w)<=I (G wr):=aB.o.be.size;have dc:aA (C6 w dn (ee+i*6) ⟨ad,sR,bn,bo,bp,sn⟩/\dn<I (G w)):=⟨cx,l0⟩
     clear cx aB cm hb cl cy;generalize dQ (l.take i)=Q at*;generalize df d 0 (l.take i)=B at*
     go_upto_region 12 with(at_builtin;refine wpList_append_lies _ rfl _ _ 36 rfl (I (G w)) 44 cM (bF #[U M4 0,U M4 0,U M4 0,U M4 0,U M4 0,U M4 0]) 6 48 underlying36 cN cO cP cQ rfl ae (H bt (L Q) rc) (L Q) (fX Q) rfl (fC v.o.a _) ⟨I (G wr),0,Y⟩ 1 1 (e6 ⟨ad,sR,bn,bo,bp,sn⟩) rfl rfl ?_ qv ae (by unfold bW;omega) aa (by simp;omega) _ rfl ?_;(intro j u c;have c:=c;match j,c with|0,c=>(cases c;simp[Addr.add])|1,c=>(cases c;simp[Addr.add])|2,c=>(cases c;simp[Addr.add])|3,c=>(cases c;simp[Addr.add])|4,c=>(cases c;simp[Addr.add])|5,c=>(cases c;simp[Addr.add]));intro co cp s cR cS dd du)
     have bg:aA (i9 w s (Z ⟨co,0,Y⟩) cp (Q++[⟨ad,sR,bn,bo,bp,sn⟩]) rb bx B):=v.o.first _ _ cR cS dd;have eh:L Q+1=L (Q++[(⟨ad,sR,bn,bo,bp,sn⟩:S6)]):=ac;rw[eh,<-a4.o];have bg:aA (i9 w s (Z ⟨co,0,Y⟩) cp (dQ (l.take (i+1))) rb bx B):=by rw[a4.o];exact bg.o
     have ff:I (G w)<=I (G s):=bg.o.be.size;clear eh a4 cR cS dd du v be y1 b0 b1 b6 ce k6 dq dr ds dt db;obtain⟨cT,dv⟩:∃y,dQ (l.take (i+1))=y:=⟨_,rfl⟩
     rw[dv] at bg⊢;have cq:aA (dQ (l.take (i+1))=cT):=dv;clear dv;clear ef;by_cases ci:i<L d
     ·have cz:aA (df d 0 (l.take (i+1))=(B++[cst (X d i K)])++[⟨ad,sR,bn,bo,bp,sn⟩]):=by rw[cn.o,aJ ci,bw];rfl
      obtain⟨t,eQ,eR,lb,ej⟩:=eM.o aa;have de:=ej i ci;have de:=(bg.o.be.cell (p:=⟨t,eQ+i,Y⟩) lb).trans de;subst eR;have dw:(i:Int)<(L d:Int):=aa;clear ej cn;generalize X d i K=cb at*;cases cb
      go_upto_region 17 with(first|(at_builtin;refine wpList_append_lies _ rfl _ _ 36 rfl (I (G w)) 44 cM (bF #[U M4 0,U M4 0,U M4 0,U M4 0,U M4 0,U M4 0]) 6 48 underlying36 cN cO cP cQ rfl ae (H rb (L B) bx) (L B) (fX B) rfl (fC bg.o.b _) ⟨I (G s),0,Y⟩ 1 1 (e6 (cst K)) rfl rfl ?_ qv ae (by unfold bW;omega) aa (by simp;omega) _ rfl ?_;(intro j u c;have c:=c;match j,c with|0,c=>(cases c;simp[Addr.add,cst])|1,c=>(cases c;simp[Addr.add,cst])|2,c=>(cases c;simp[Addr.add,cst])|3,c=>(cases c;simp[Addr.add,cst])|4,c=>(cases c;simp[Addr.add,cst])|5,c=>(cases c;simp[Addr.add,cst]));intro cU cV b3 cW cX cY dx)|(at_builtin;refine wpList_append_lies _ rfl _ _ 36 rfl (I (G w)) 44 cM (bF #[U M4 0,U M4 0,U M4 0,U M4 0,U M4 0,U M4 0]) 6 48 underlying36 cN cO cP cQ rfl ae (H rb (L B) bx) (L B) (fX B) rfl (fC bg.o.b _) ⟨I (G s),0,Y⟩ 1 1 (e6 (cst D)) rfl rfl ?_ qv ae (by unfold bW;omega) aa (by simp;omega) _ rfl ?_;(intro j u c;have c:=c;match j,c with|0,c=>(cases c;simp[Addr.add,cst])|1,c=>(cases c;simp[Addr.add,cst])|2,c=>(cases c;simp[Addr.add,cst])|3,c=>(cases c;simp[Addr.add,cst])|4,c=>(cases c;simp[Addr.add,cst])|5,c=>(cases c;simp[Addr.add,cst]));intro cU cV b3 cW cX cY dx))
      all_goals (first|(have cJ:aA (i9 w b3 (Z ⟨co,0,Y⟩) cp cT (Z ⟨cU,0,Y⟩) cV (B++[cst K])):=bg.o.snd _ _ cW cX cY;have hB:L B+1=L (B++[cst K]):=ac;rw[hB];have eS:L (B++[cst K])<=2001:=(by simp only [va,hW];omega);clear hB cW cX cY dx bg de dw eg;generalize B++[cst K]=cZ at*;generalize Z (⟨cU,0,Y⟩:bG)=ek at*;generalize cV=el at*)|(have cJ:aA (i9 w b3 (Z ⟨co,0,Y⟩) cp cT (Z ⟨cU,0,Y⟩) cV (B++[cst D])):=bg.o.snd _ _ cW cX cY;have hB:L B+1=L (B++[cst D]):=ac;rw[hB];have eS:L (B++[cst D])<=2001:=(by simp only [va,hW];omega);clear hB cW cX cY dx bg de dw eg;generalize B++[cst D]=cZ at*;generalize Z (⟨cU,0,Y⟩:bG)=ek at*;generalize cV=el at*))
      all_goals
       obtain⟨be,y1,b0,b1,b6,ce⟩:=dc.o.1.below cJ.o.be dc.o.2;dsimp only at be y1 b0 b1 b6 ce;have eT:I (G w)<=I (G b3):=cJ.o.be.size;go_wp2_with (at_builtin;refine wpList_append_lies _ rfl _ _ 36 rfl (I (G w)) 44 cM (bF #[U M4 0,U M4 0,U M4 0,U M4 0,U M4 0,U M4 0]) 6 48 underlying36 cN cO cP cQ rfl ae (H ek (L cZ) el) (L cZ) (fX cZ) rfl (fC cJ.o.b _) ⟨I (G b3),0,Y⟩ 1 1 (e6 ⟨ad,sR,bn,bo,bp,sn⟩) rfl rfl ?_ qv ae (by unfold bW;omega) aa (by simp;omega) _ rfl ?_;(intro j u c;have c:=c;match j,c with|0,c=>(cases c;simp[Addr.add])|1,c=>(cases c;simp[Addr.add])|2,c=>(cases c;simp[Addr.add])|3,c=>(cases c;simp[Addr.add])|4,c=>(cases c;simp[Addr.add])|5,c=>(cases c;simp[Addr.add]));intro dy dz cA c0 c1 c2 dC)
       have dD:aA (i9 w cA (Z ⟨co,0,Y⟩) cp cT (Z ⟨dy,0,Y⟩) dz (df d 0 (l.take (i+1)))):=by rw[cz.o];exact cJ.o.snd _ _ c0 c1 c2
       have hB:L cZ+1=L (df d 0 (l.take (i+1))):=by rw[cz.o];simp
       rw[hB];clear hB c0 c1 c2 dC be y1 b0 b1 b6 ce eT cJ cz;go_wp2_with fail;go_roundw
       case rel=>exact⟨i+1,_,_,_,_,aa,aj,by rw[cq.o],rfl,by rw[cq.o];exact dD⟩
       case measure=>simp[bN];omega
     ·have cz:aA (df d 0 (l.take (i+1))=B++[⟨ad,sR,bn,bo,bp,sn⟩]):=by rw[cn.o,aI ci];rfl
      have dw:¬(i:Int)<(L d:Int):=aa;clear cn;obtain⟨be,y1,b0,b1,b6,ce⟩:=dc.o.1.below bg.o.be dc.o.2;dsimp only at be y1 b0 b1 b6 ce;go_wp2_with (at_builtin;refine wpList_append_lies _ rfl _ _ 36 rfl (I (G w)) 44 cM (bF #[U M4 0,U M4 0,U M4 0,U M4 0,U M4 0,U M4 0]) 6 48 underlying36 cN cO cP cQ rfl ae (H rb (L B) bx) (L B) (fX B) rfl (fC bg.o.b _) ⟨I (G s),0,Y⟩ 1 1 (e6 ⟨ad,sR,bn,bo,bp,sn⟩) rfl rfl ?_ qv ae (by unfold bW;omega) aa (by simp;omega) _ rfl ?_;(intro j u c;have c:=c;match j,c with|0,c=>(cases c;simp[Addr.add])|1,c=>(cases c;simp[Addr.add])|2,c=>(cases c;simp[Addr.add])|3,c=>(cases c;simp[Addr.add])|4,c=>(cases c;simp[Addr.add])|5,c=>(cases c;simp[Addr.add]));intro dy dz cA c0 c1 c2 dC)
      have dD:aA (i9 w cA (Z ⟨co,0,Y⟩) cp cT (Z ⟨dy,0,Y⟩) dz (df d 0 (l.take (i+1)))):=by rw[cz.o];exact bg.o.snd _ _ c0 c1 c2
      have hB:L B+1=L (df d 0 (l.take (i+1))):=by rw[cz.o];simp
      rw[hB];clear hB c0 c1 c2 dC be y1 b0 b1 b6 ce bg cz;go_wp2_with fail;go_roundw
      case rel=>exact⟨i+1,_,_,_,_,aa,aj,by rw[cq.o],rfl,by rw[cq.o];exact dD⟩
      case measure=>simp[bN];omega
   ·obtain rfl:i=L l:=aa;rw[bk] at*;have br:aA (oa (dQ l)/\L (dQ l)<=250/\(∀x∈dQ l,ib x=D)/\L (df d 0 l)<=500/\(df d 0 l).filter (fun x=>!ei x)=dQ l/\∀x∈df d 0 l,ei x=K->ib x=D):=by
     refine⟨fun x c3=>ed.o x (bM.1 c3).1,aU (CO l) da.o,fun x c3=>(bM.1 c3).2,by have:=wG d l 0;have:=da.o;omega,CR d l 0,fun x c3 hc=>?_⟩
     rcases wF d l 0 x c3 with⟨b,rfl⟩|⟨_,h⟩
     ·rw[CQ] at hc;cases hc
     ·exact h
    have dE:aA (gn wr bt (dQ l)):=gn.row aB.o.a rfl br.o.1;have cy:aA (gn wr rb (df d 0 l)):=gn.row aB.o.b rfl (MD ed.o)
    have cf:aA (C (I (G w)) w wr):=aB.o.be;obtain⟨r3,eU,em⟩:=Mu more 200 ae ae;have dg:aA (wrap64 ((IntKind.u64.wrap more).tmod 200)=(r3:Int)/\wrap64 (16+(r3:Int))=16+(r3:Int)):=⟨em,by unfold wrap64;omega⟩
    have dh:aA (∀(n o:Nat) w',16<=n->n<=256->o<=1024->gn w' bt (dQ l)->J Ng 33 #[U M4 n,U M4 o,H bt (L (dQ l)) rc] w' fun e bl=>∃ca ar aR cr c4,e=E (a8 #[H ca (L (dQ l)) (L (dQ l)),bF #[H ar 12 aR,H cr (L (eu g n o (dQ l)).2.2) c4],bF #[U M4 0,U M4 0]])/\e8 bl (I (G w')) ca (fE g n o (dQ l))/\jc bl (I (G w')) ar (eu g n o (dQ l)).1/\iH bl (I (G w')) cr (eu g n o (dQ l)).2.2/\C (I (G w')) w' bl):=fun n o w' cI ck dF h=>wz cH.o n o cI ck dF (dQ l) bt rc w' h (by have:=br.o.2.1;omega)
    have dG:aA (∀(n o:Nat) w',16<=n->n<=256->o<=1024->gn w' rb (df d 0 l)->J Ng 33 #[U M4 n,U M4 o,H rb (L (df d 0 l)) bx] w' fun e bl=>∃ca ar aR cr c4,e=E (a8 #[H ca (L (df d 0 l)) (L (df d 0 l)),bF #[H ar 12 aR,H cr (L (eu g n o (df d 0 l)).2.2) c4],bF #[U M4 0,U M4 0]])/\e8 bl (I (G w')) ca (fE g n o (df d 0 l))/\jc bl (I (G w')) ar (eu g n o (df d 0 l)).1/\iH bl (I (G w')) cr (eu g n o (df d 0 l)).2.2/\C (I (G w')) w' bl):=fun n o w' cI ck dF h=>wz cH.o n o cI ck dF (df d 0 l) rb bx w' h (by have:=br.o.2.2.2.1;omega)
    have di:aA (∀n o,L (fE g n o (dQ l))=L (dQ l)/\L (eu g n o (dQ l)).1=12/\L (eu g n o (dQ l)).2.2<=10000/\∀nd∈(eu g n o (dQ l)).2.2,L nd.2<=20000):=fun n o=>⟨pi g n o (dQ l) _,CL cH.o n o (dQ l) (by have:=br.o.2.1;omega)⟩
    have dH:aA (∀n o,L (fE g n o (df d 0 l))=L (df d 0 l)/\L (eu g n o (df d 0 l)).1=12/\L (eu g n o (df d 0 l)).2.2<=10000/\∀nd∈(eu g n o (df d 0 l)).2.2,L nd.2<=20000):=fun n o=>⟨pi g n o (df d 0 l) _,CL cH.o n o (df d 0 l) (by have:=br.o.2.2.2.1;omega)⟩
    have en:aA (∀n o n' o',3∈fE g n o (dQ l)\/3∈fE g n' o' (dQ l)\/(fE g n' o' (dQ l)=fE g n o (dQ l)/\eu g n' o' (dQ l)=eu g n o (dQ l))):=fun n o n' o'=>Mx cH.o n o n' o' (dQ l) (by have:=br.o.2.1;omega) br.o.2.2.1;have cq:aA (∀n o,(3∈fE g n o (dQ l)\/3∈ec (df d 0 l) (fE g n o (df d 0 l))\/(ec (df d 0 l) (fE g n o (df d 0 l))=fE g n o (dQ l)/\eu g n o (df d 0 l)=eu g n o (dQ l)))/\L (ec (df d 0 l) (fE g n o (df d 0 l)))=L (dQ l)):=fun n o=>by
     have h:=CN cH.o n o n o (df d 0 l) (by have:=br.o.2.2.2.1;omega) br.o.2.2.2.2.2;rw[br.o.2.2.2.2.1,<-CS] at h;refine⟨h,?_⟩
     rw[wH _ _ (show L (fE g n o (df d 0 l))=_ from pi g n o (df d 0 l) _),br.o.2.2.2.2.1]
    clear aB em;generalize dQ l=S at*;generalize df d 0 l=O at*;have fg:=br.o.2.1;have hO:=br.o.2.2.2.1;have c5:aA (∀w',gn w' bt S->J Ng 33 #[U M4 (16+(r3:Int)),U M4 1024,H bt (L S) rc] w' fun e bl=>∃ca ar aR cr c4,e=E (a8 #[H ca (L S) (L S),bF #[H ar 12 aR,H cr (L (eu g (16+r3) 1024 S).2.2) c4],bF #[U M4 0,U M4 0]])/\e8 bl (I (G w')) ca (fE g (16+r3) 1024 S)/\jc bl (I (G w')) ar (eu g (16+r3) 1024 S).1/\iH bl (I (G w')) cr (eu g (16+r3) 1024 S).2.2/\C (I (G w')) w' bl):=fun w' h=>by have P:=dh.o (16+r3) 1024 w' aa aa ae h;have e:(((16+r3:Nat)):Int)=16+(r3:Int):=aa;rw[e] at P;exact P
    have dI:aA (L (fE g (16+r3) 1024 S)=L S/\L (eu g (16+r3) 1024 S).1=12/\L (eu g (16+r3) 1024 S).2.2<=10000/\∀nd∈(eu g (16+r3) 1024 S).2.2,L nd.2<=20000):=di.o _ _;have dJ:aA (∀n o,3∈fE g n o S\/3∈fE g (16+r3) 1024 S\/(fE g (16+r3) 1024 S=fE g n o S/\eu g (16+r3) 1024 S=eu g n o S)):=fun n o=>en.o n o _ _;clear en eU;generalize fE g (16+r3) 1024 S=cs at*;generalize eu g (16+r3) 1024 S=eV at*;obtain⟨dK,eo,ag⟩:=eV;dsimp only at c5 dI;by_cases dL:n<16\/256<n\/o<0\/1024<o
    ·clear dh dG di dH cq dJ;have dM:aA (n<16\/256<n\/o<0\/1024<o):=dL;clear dL;go_wp2_with fail;refine(CV n o dM.o _ _ _ _).mono ?_;rintro e aF ⟨rfl,ct⟩
     have am:=(aw aF (R #[H Y 0 0,H Y 0 0] 60)).alloc ac (R #[U M4 1,U M4 (-1)] 28)
     have t:=ct.trans (am.mono ct.size)
     have a3:aA (C (I (G wr)) wr (bj (bj aF (R #[H Y 0 0,H Y 0 0] 60)) (R #[U M4 1,U M4 (-1)] 28))/\(bj (bj aF (R #[H Y 0 0,H Y 0 0] 60)) (R #[U M4 1,U M4 (-1)] 28)).heap[I (G aF)+1]?=Z (R #[U M4 1,U M4 (-1)] 28 (0,0))):=⟨t,gH _ _ _⟩
     clear ct am t
     go_upto_region 19 with fail
     generalize bj (bj aF (R #[H Y 0 0,H Y 0 0] 60)) (R #[U M4 1,U M4 (-1)] 28)=ep at*;generalize I (G aF)=b4 at*;go_wp2_with fail;refine(CV n o dM.o _ _ _ _).mono ?_;rintro e an ⟨rfl,cB⟩
     have am:=(aw an (R #[H Y 0 0,H Y 0 0] 60)).alloc ac (R #[U M4 1,U M4 (-1)] 28)
     have t:=cB.trans (am.mono cB.size)
     have v:aA (C (I (G wr)) wr (bj (bj an (R #[H Y 0 0,H Y 0 0] 60)) (R #[U M4 1,U M4 (-1)] 28))/\(bj (bj an (R #[H Y 0 0,H Y 0 0] 60)) (R #[U M4 1,U M4 (-1)] 28)).heap[b4+1]?=Z (R #[U M4 1,U M4 (-1)] 28 (0,0))/\(bj (bj an (R #[H Y 0 0,H Y 0 0] 60)) (R #[U M4 1,U M4 (-1)] 28)).heap[I (G an)+1]?=Z (R #[U M4 1,U M4 (-1)] 28 (0,0))):=⟨a3.o.1.trans (t.mono a3.o.1.size),(t.block _ (lt_of_some a3.o.2)).trans a3.o.2,gH _ _ _⟩
     clear cB am t a3
     go_upto_region 20 with fail
     generalize bj (bj an (R #[H Y 0 0,H Y 0 0] 60)) (R #[U M4 1,U M4 (-1)] 28)=dN at*;generalize I (G an)=cu at*;have cw:=c5.o dN (dE.o.below v.o.1)
     have dO:=dg.o.1;have dP:=dg.o.2;clear c5;go_wp2_with fail;refine cw.mono ?_;clear cw;rintro e s ⟨cd,ai,ao,al,ap,rfl,cg,ch,cj,cC⟩
     have am:=(aw s (R #[H ai 12 ao,H al (L ag) ap] 60)).alloc ac (R #[U M4 0,U M4 0] 28)
     have t:=cC.trans (am.mono cC.size)
     have f:aA (C (I (G wr)) wr (bj (bj s (R #[H ai 12 ao,H al (L ag) ap] 60)) (R #[U M4 0,U M4 0] 28))/\(bj (bj s (R #[H ai 12 ao,H al (L ag) ap] 60)) (R #[U M4 0,U M4 0] 28)).heap[b4+1]?=Z (R #[U M4 1,U M4 (-1)] 28 (0,0))/\(bj (bj s (R #[H ai 12 ao,H al (L ag) ap] 60)) (R #[U M4 0,U M4 0] 28)).heap[cu+1]?=Z (R #[U M4 1,U M4 (-1)] 28 (0,0))):=⟨v.o.1.trans (t.mono v.o.1.size),(t.block _ (lt_of_some v.o.2.1)).trans v.o.2.1,(t.block _ (lt_of_some v.o.2.2)).trans v.o.2.2⟩
     clear cC am t v cg ch cj
     go_upto_region 21 with fail
     generalize bj (bj s (R #[H ai 12 ao,H al (L ag) ap] 60)) (R #[U M4 0,U M4 0] 28)=N at*;generalize I (G s)=eW at*;obtain⟨be,y1,_⟩:=jJ f.o.2.1;obtain⟨b0,b1,_⟩:=jJ f.o.2.2;have l2:=lt_of_some f.o.2.1;have eq:=lt_of_some f.o.2.2;clear dO dP
     go_upto_region 22 with fail
     go_region_held3 (fun w'=>V w' ⟨b4+1,0,Y⟩=Z (U M4 1)/\V w' ⟨b4+1,1,Y⟩=Z (U M4 (-1))/\V w' ⟨cu+1,0,Y⟩=Z (U M4 1)/\V w' ⟨cu+1,1,Y⟩=Z (U M4 (-1))) (go_keep)
      (first|(go_at_call 14;refine(Lr n o _ dM.o).mono ?_;rintro e dR ⟨rfl,c6⟩;have z0:=(c6.cell (p:=⟨b4+1,0,Y⟩) l2).trans be;have dS:=(c6.cell (p:=⟨b4+1,1,Y⟩) l2).trans y1;have dT:=(c6.cell (p:=⟨cu+1,0,Y⟩) eq).trans b0;have dU:=(c6.cell (p:=⟨cu+1,1,Y⟩) eq).trans b1))
     have eX:=cf.o.trans ((f.o.1.trans (((ax N).drew.trans c6).mono f.o.1.size)).mono cf.o.size)
     go_wp2_with fail;go_ret;exact⟨rfl,eX⟩
    ·have eY:16<=n/\n<=256/\0<=o/\o<=1024:=aa;obtain⟨n,rfl⟩:=bH (show 0<=n by omega)
     obtain⟨o,rfl⟩:=bH (show 0<=o by omega)
     have W:=dh.o n o wr aa aa aa dE.o;have dV:aA (∀w',gn w' rb O->_):=fun w'=>dG.o n o w' aa aa aa;have bi:aA (L (fE g n o S)=L S/\L (eu g n o S).1=12/\L (eu g n o S).2.2<=10000/\∀nd∈(eu g n o S).2.2,L nd.2<=20000):=di.o n o;have c7:aA (L (fE g n o O)=L O/\L (eu g n o O).1=12/\L (eu g n o O).2.2<=10000/\∀nd∈(eu g n o O).2.2,L nd.2<=20000):=dH.o n o;have er:=cq.o n o;have es:=dJ.o n o;clear dh dG di dH cq dJ dL eY;generalize fE g n o S=b5 at*;generalize fE g n o O=m at*;generalize eu g n o S=eZ at*;generalize eu g n o O=e0 at*;obtain⟨cD,dj,a0⟩:=eZ;obtain⟨dk,et,aV⟩:=e0;have dW:aA (((3∈b5\/3∈ec O m\/ec O m=b5/\(dk,et,aV)=(cD,dj,a0))/\L (ec O m)=L S)/\(3∈b5\/3∈cs\/cs=b5/\(dK,eo,ag)=(cD,dj,a0))):=⟨er,es⟩
     dsimp only at W dV bi c7;clear er es;go_wp2_with fail;refine W.mono ?_;clear W;rintro e aF ⟨ca,ar,aR,ba,bs,rfl,cg,ch,cj,ct⟩
     have am:=(aw aF (R #[H ar 12 aR,H ba (L a0) bs] 60)).alloc ac (R #[U M4 0,U M4 0] 28)
     have t:=ct.trans (am.mono ct.size)
     have a3:aA (C (I (G wr)) wr (bj (bj aF (R #[H ar 12 aR,H ba (L a0) bs] 60)) (R #[U M4 0,U M4 0] 28))/\(bj (bj aF (R #[H ar 12 aR,H ba (L a0) bs] 60)) (R #[U M4 0,U M4 0] 28)).heap[I (G aF)]?=Z (R #[H ar 12 aR,H ba (L a0) bs] 60 (0,0))/\(bj (bj aF (R #[H ar 12 aR,H ba (L a0) bs] 60)) (R #[U M4 0,U M4 0] 28)).heap[I (G aF)+1]?=Z (R #[U M4 0,U M4 0] 28 (0,0))/\e8 (bj (bj aF (R #[H ar 12 aR,H ba (L a0) bs] 60)) (R #[U M4 0,U M4 0] 28)) 0 ca b5/\dA (bj (bj aF (R #[H ar 12 aR,H ba (L a0) bs] 60)) (R #[U M4 0,U M4 0] 28)) ar cD/\Ln (bj (bj aF (R #[H ar 12 aR,H ba (L a0) bs] 60)) (R #[U M4 0,U M4 0] 28)) ba a0):=⟨t,by rw[aS _ _ _ ac];exact aP _ _,gH _ _ _,(cg.below am).base (a5 _),ch.1.below am,cj.ln.below am⟩
     clear ct am t cg ch cj
     go_upto_region 19 with fail
     generalize bj (bj aF (R #[H ar 12 aR,H ba (L a0) bs] 60)) (R #[U M4 0,U M4 0] 28)=ep at*;generalize I (G aF)=b4 at*;have cw:=dV.o ep (cy.o.below a3.o.1)
     clear dV;go_wp2_with fail;refine cw.mono ?_;clear cw;rintro e an ⟨cb,a1,bb,a2,bd,rfl,cg,ch,cj,cB⟩
     have am:=(aw an (R #[H a1 12 bb,H a2 (L aV) bd] 60)).alloc ac (R #[U M4 0,U M4 0] 28)
     have t:=cB.trans (am.mono cB.size)
     have v:aA (C (I (G wr)) wr (bj (bj an (R #[H a1 12 bb,H a2 (L aV) bd] 60)) (R #[U M4 0,U M4 0] 28))/\((bj (bj an (R #[H a1 12 bb,H a2 (L aV) bd] 60)) (R #[U M4 0,U M4 0] 28)).heap[b4]?=Z (R #[H ar 12 aR,H ba (L a0) bs] 60 (0,0))/\(bj (bj an (R #[H a1 12 bb,H a2 (L aV) bd] 60)) (R #[U M4 0,U M4 0] 28)).heap[b4+1]?=Z (R #[U M4 0,U M4 0] 28 (0,0))/\e8 (bj (bj an (R #[H a1 12 bb,H a2 (L aV) bd] 60)) (R #[U M4 0,U M4 0] 28)) 0 ca b5/\dA (bj (bj an (R #[H a1 12 bb,H a2 (L aV) bd] 60)) (R #[U M4 0,U M4 0] 28)) ar cD/\Ln (bj (bj an (R #[H a1 12 bb,H a2 (L aV) bd] 60)) (R #[U M4 0,U M4 0] 28)) ba a0)/\(bj (bj an (R #[H a1 12 bb,H a2 (L aV) bd] 60)) (R #[U M4 0,U M4 0] 28)).heap[I (G an)]?=Z (R #[H a1 12 bb,H a2 (L aV) bd] 60 (0,0))/\(bj (bj an (R #[H a1 12 bb,H a2 (L aV) bd] 60)) (R #[U M4 0,U M4 0] 28)).heap[I (G an)+1]?=Z (R #[U M4 0,U M4 0] 28 (0,0))/\e8 (bj (bj an (R #[H a1 12 bb,H a2 (L aV) bd] 60)) (R #[U M4 0,U M4 0] 28)) 0 cb m/\dA (bj (bj an (R #[H a1 12 bb,H a2 (L aV) bd] 60)) (R #[U M4 0,U M4 0] 28)) a1 dk/\Ln (bj (bj an (R #[H a1 12 bb,H a2 (L aV) bd] 60)) (R #[U M4 0,U M4 0] 28)) a2 aV):=⟨a3.o.1.trans (t.mono a3.o.1.size),⟨(t.block _ (lt_of_some a3.o.2.1)).trans a3.o.2.1,(t.block _ (lt_of_some a3.o.2.2.1)).trans a3.o.2.2.1,a3.o.2.2.2.1.below t,a3.o.2.2.2.2.1.below t,a3.o.2.2.2.2.2.below t⟩,by rw[aS _ _ _ ac];exact aP _ _,gH _ _ _,(cg.below am).base (a5 _),ch.1.below am,cj.ln.below am⟩
     clear cB am t a3 cg ch cj
     go_upto_region 20 with fail
     generalize bj (bj an (R #[H a1 12 bb,H a2 (L aV) bd] 60)) (R #[U M4 0,U M4 0] 28)=dN at*;generalize I (G an)=cu at*;have cw:=c5.o dN (dE.o.below v.o.1)
     have dO:=dg.o.1;have dP:=dg.o.2;clear c5;go_wp2_with fail;refine cw.mono ?_;clear cw;rintro e s ⟨cd,ai,ao,al,ap,rfl,cg,ch,cj,cC⟩
     have am:=(aw s (R #[H ai 12 ao,H al (L ag) ap] 60)).alloc ac (R #[U M4 0,U M4 0] 28)
     have t:=cC.trans (am.mono cC.size)
     have f:aA (C (I (G wr)) wr (bj (bj s (R #[H ai 12 ao,H al (L ag) ap] 60)) (R #[U M4 0,U M4 0] 28))/\((bj (bj s (R #[H ai 12 ao,H al (L ag) ap] 60)) (R #[U M4 0,U M4 0] 28)).heap[b4]?=Z (R #[H ar 12 aR,H ba (L a0) bs] 60 (0,0))/\(bj (bj s (R #[H ai 12 ao,H al (L ag) ap] 60)) (R #[U M4 0,U M4 0] 28)).heap[b4+1]?=Z (R #[U M4 0,U M4 0] 28 (0,0))/\e8 (bj (bj s (R #[H ai 12 ao,H al (L ag) ap] 60)) (R #[U M4 0,U M4 0] 28)) 0 ca b5/\dA (bj (bj s (R #[H ai 12 ao,H al (L ag) ap] 60)) (R #[U M4 0,U M4 0] 28)) ar cD/\Ln (bj (bj s (R #[H ai 12 ao,H al (L ag) ap] 60)) (R #[U M4 0,U M4 0] 28)) ba a0)/\((bj (bj s (R #[H ai 12 ao,H al (L ag) ap] 60)) (R #[U M4 0,U M4 0] 28)).heap[cu]?=Z (R #[H a1 12 bb,H a2 (L aV) bd] 60 (0,0))/\(bj (bj s (R #[H ai 12 ao,H al (L ag) ap] 60)) (R #[U M4 0,U M4 0] 28)).heap[cu+1]?=Z (R #[U M4 0,U M4 0] 28 (0,0))/\e8 (bj (bj s (R #[H ai 12 ao,H al (L ag) ap] 60)) (R #[U M4 0,U M4 0] 28)) 0 cb m/\dA (bj (bj s (R #[H ai 12 ao,H al (L ag) ap] 60)) (R #[U M4 0,U M4 0] 28)) a1 dk/\Ln (bj (bj s (R #[H ai 12 ao,H al (L ag) ap] 60)) (R #[U M4 0,U M4 0] 28)) a2 aV)/\(bj (bj s (R #[H ai 12 ao,H al (L ag) ap] 60)) (R #[U M4 0,U M4 0] 28)).heap[I (G s)]?=Z (R #[H ai 12 ao,H al (L ag) ap] 60 (0,0))/\(bj (bj s (R #[H ai 12 ao,H al (L ag) ap] 60)) (R #[U M4 0,U M4 0] 28)).heap[I (G s)+1]?=Z (R #[U M4 0,U M4 0] 28 (0,0))/\e8 (bj (bj s (R #[H ai 12 ao,H al (L ag) ap] 60)) (R #[U M4 0,U M4 0] 28)) 0 cd cs/\dA (bj (bj s (R #[H ai 12 ao,H al (L ag) ap] 60)) (R #[U M4 0,U M4 0] 28)) ai dK/\Ln (bj (bj s (R #[H ai 12 ao,H al (L ag) ap] 60)) (R #[U M4 0,U M4 0] 28)) al ag):=⟨v.o.1.trans (t.mono v.o.1.size),⟨(t.block _ (lt_of_some v.o.2.1.1)).trans v.o.2.1.1,(t.block _ (lt_of_some v.o.2.1.2.1)).trans v.o.2.1.2.1,v.o.2.1.2.2.1.below t,v.o.2.1.2.2.2.1.below t,v.o.2.1.2.2.2.2.below t⟩,⟨(t.block _ (lt_of_some v.o.2.2.1)).trans v.o.2.2.1,(t.block _ (lt_of_some v.o.2.2.2.1)).trans v.o.2.2.2.1,v.o.2.2.2.2.1.below t,v.o.2.2.2.2.2.1.below t,v.o.2.2.2.2.2.2.below t⟩,by rw[aS _ _ _ ac];exact aP _ _,gH _ _ _,(cg.below am).base (a5 _),ch.1.below am,cj.ln.below am⟩
     clear cC am t v cg ch cj
     go_upto_region 21 with fail
     generalize bj (bj s (R #[H ai 12 ao,H al (L ag) ap] 60)) (R #[U M4 0,U M4 0] 28)=N at*;generalize I (G s)=eW at*;obtain⟨be,y1,_⟩:=jJ f.o.2.1.2.1;obtain⟨b0,b1,_⟩:=jJ f.o.2.2.1.2.1;obtain⟨b6,ce,_⟩:=jJ f.o.2.2.2.2.1;clear dO dP;go_wp2_with fail;clear be y1 b0 b1 b6 ce;obtain⟨e1,e2,e3,e4,e5⟩:=bV kk
     go_loopw [25,26,27] (fun e7 kv dX dR=>∃(j:Nat)(rl:Option bG)(rm:Nat),j<=L O/\dX=U M4 j/\kv=U M4 (L (ec (O.take j) (m.take j)))/\e7=H rl (L (ec (O.take j) (m.take j))) rm/\aA (aC dR (I (G N)) 3 1 (H rl (L (ec (O.take j) (m.take j))) rm) (L (ec (O.take j) (m.take j))) ((ec (O.take j) (m.take j)).map (Value.int M4))/\C (I (G N)) N dR)) (fun _ _ dX _=>L O-(bN dX).toNat)
     case atStart=>exact⟨0,Y,0,a5 _,rfl,rfl,rfl,⟨bf _ _ _ _,aH _ _⟩⟩
     case round=>
      obtain⟨j,rl,rm,c,rfl,rfl,rfl,aB⟩:=hrel;by_cases dY:j<L O
      ·obtain⟨dn,ee,dp,l0,hc⟩:=cy.o aa;obtain⟨cx,_⟩:=hc j dY;subst dp;clear hc;have ev:=f.o.1.trans (aB.o.2.mono f.o.1.size)
       have be:=(cx.below ev l0).c0;have dZ:j<L m:=by rw[c7.o.1];exact dY
       obtain⟨b2,fh,d0,_,ct,cK⟩:=(f.o.2.2.1.2.2.1.below aB.o.2) aa;have y1:=cK j dZ;subst d0;have cl:aA (ec (O.take (j+1)) (m.take (j+1))=ec (O.take j) (m.take j)++if ei (X O j gL)=D then[] else[X m j 0]):=by show _=_;rw[pj O dY,MC m dZ,CT];rw[bz,bz,c7.o.1]
       have cm:aA (L (ec (O.take j) (m.take j))<=500):=by
        have cI:=wH (O.take j) (m.take j) (by rw[bz,bz,c7.o.1])
        have ck:=bm (fun x:S6=>!ei x) (O.take j)
        rw[bz] at ck;show _<=_;omega
       have q0:(0:Int)<=(j:Int):=aa;have q1:(j:Int)<(L O:Int):=aa;clear cx ev cK dZ;generalize X O j gL=st at*;generalize X m j 0=d1 at*;obtain⟨ad,sR,bn,bo,bp,sn⟩:=st;dsimp only at be;cases hb:ei ⟨ad,sR,bn,bo,bp,sn⟩
       ·have a4:aA (ec (O.take (j+1)) (m.take (j+1))=ec (O.take j) (m.take j)++[d1]):=by
         have:=cl.o;rw[hb] at this
         exact this
        obtain⟨k1,fi⟩:(ad !=15)=D/\(ad !=16)=D:=by unfold ei at hb;simp at hb;exact⟨bne_iff_ne.2 hb.1,bne_iff_ne.2 hb.2⟩
        have v:aA (aC wr (I (G N)) 3 1 (H rl (L (ec (O.take j) (m.take j))) rm) (L (ec (O.take j) (m.take j))) ((ec (O.take j) (m.take j)).map (Value.int M4))/\C (I (G N)) N wr):=aB.o;have ef:=cm.o;have db:=aB.o.2.size;have ew:=aw wr (R #[U M4 d1] 3)
        clear aB cm cl hb;generalize ec (O.take j) (m.take j)=Q at*;go_wp2_with (at_builtin;refine wpList_append_lies _ rfl _ _ 74 rfl (I (G N)) 3 e1 (U M4 0) 1 8 underlying74 e2 e3 e4 e5 rfl ae (H rl (L Q) rm) (L Q) (Q.map (Value.int M4)) rfl (fC v.o.1 _) ⟨I (G wr),0,Y⟩ 1 1 [U M4 d1] rfl rfl ?_ (fun u ex=>by simp at ex;subst ex;rfl) ae (by unfold bW;omega) aa (by simp;omega) _ rfl ?_;(intro j u c;have c:=c;match j,c with|0,c=>(cases c;simp[Addr.add]));intro co cp b3 cR cS dd du)
        have ez:(L Q:Int)+1=(L (ec (O.take (j+1)) (m.take (j+1))):Int):=by rw[a4.o];simp
        have eA:L Q+1=L (ec (O.take (j+1)) (m.take (j+1))):=by rw[a4.o];simp
        have d2:aA (aC b3 (I (G N)) 3 1 (H (Z ⟨co,0,Y⟩) (L (ec (O.take (j+1)) (m.take (j+1)))) cp) (L (ec (O.take (j+1)) (m.take (j+1)))) ((ec (O.take (j+1)) (m.take (j+1))).map (Value.int M4))/\C (I (G N)) N b3):=by rw[a4.o,List.map_append,a7];exact⟨cR,(v.o.2.trans (ew.mono db)).grown cS (by simp;omega) (fun b e=>(cv v.o.1 b e.symm).1)⟩
        have e9:aA ((L Q:Int)+1=(L (ec (O.take (j+1)) (m.take (j+1))):Int)):=ez;rw[eA];clear ez eA cR cS dd du ew db v a4 be y1;go_wp2_with fail;go_roundw
        case rel=>exact⟨j+1,_,_,aa,aj,by rw[<-e9.o],rfl,d2⟩
        case measure=>simp[bN];omega
       ·have a4:aA (ec (O.take (j+1)) (m.take (j+1))=ec (O.take j) (m.take j)):=by
         have:=cl.o;rw[hb] at this
         show _=_;simpa using this
        have hk:ad=15\/ad=16:=by unfold ei at hb;simpa using hb
        have d2:aA (aC wr (I (G N)) 3 1 (H rl (L (ec (O.take (j+1)) (m.take (j+1)))) rm) (L (ec (O.take (j+1)) (m.take (j+1)))) ((ec (O.take (j+1)) (m.take (j+1))).map (Value.int M4))/\C (I (G N)) N wr):=by rw[a4.o];exact aB.o
        rw[<-a4.o];clear aB cl a4 cm hb y1;rcases hk with rfl|rfl
        all_goals
         go_wp2_with fail;go_roundw
         case rel=>exact⟨j+1,_,_,aa,aj,rfl,rfl,d2⟩
         case measure=>simp[bN];omega
      ·obtain rfl:j=L O:=aa;have eB:m.take (L O)=m:=by rw[<-c7.o.1,bk]
       rw[bk,eB] at aB⊢;have d3:L (ec O m)=L S:=dW.o.1.2;have eC:aA (L (ec O m)=L S):=d3;have eD:aA (e8 wr (I (G N)) rl (ec O m)):=e8.row aB.o.1 rfl;have d4:aA (C (I (G N)) N wr):=aB.o.2;rw[d3];clear d3 eB aB;generalize ec O m=F at*;have W:=wD ca (L S) 0 b5 3 wr (by rw[bi.o.1];omega) (f.o.2.1.2.2.1.below d4.o)
       rw[bi.o.1] at W;go_wp2_with fail;refine W.mono ?_;clear W;rintro e b3 ⟨rfl,d5⟩
       have cE:aA (C (I (G N)) N b3/\C (I (G wr)) wr b3):=⟨d4.o.trans (d5.mono d4.o.size),d5⟩
       clear d5;cases hc1:bR b5 3
       ·have W:=wD rl rm (I (G N)) F 3 b3 (by rw[eC.o];omega) (eD.o.below cE.o.2)
        rw[eC.o] at W;go_wp2_with fail;refine W.mono ?_;clear W;rintro e cA ⟨rfl,d6⟩
        have cF:aA (C (I (G N)) N cA/\C (I (G wr)) wr cA):=⟨cE.o.1.trans (d6.mono cE.o.1.size),cE.o.2.trans (d6.mono cE.o.2.size)⟩
        clear d6 cE;cases cK:bR F 3
        ·have W:=wD cd (L S) 0 cs 3 cA (by rw[dI.o.1];omega) (f.o.2.2.2.2.2.1.below cF.o.1)
         rw[dI.o.1] at W;go_wp2_with fail;refine W.mono ?_;clear W;rintro e d7 ⟨rfl,d8⟩
         have cL:aA (C (I (G N)) N d7/\C (I (G wr)) wr d7):=⟨cF.o.1.trans (d8.mono cF.o.1.size),cF.o.2.trans (d8.mono cF.o.2.size)⟩
         clear d8 cF;cases hc3:bR cs 3
         ·obtain⟨fa,d0⟩:F=b5/\(dk,et,aV)=(cD,dj,a0):=by
           rcases dW.o.1.1 with q|q|q
           ·rw[bP.2 q] at hc1;cases hc1
           ·rw[bP.2 q] at cK;cases cK
           ·exact q
          obtain⟨fb,fc⟩:cs=b5/\(dK,eo,ag)=(cD,dj,a0):=by
           rcases dW.o.2 with q|q|q
           ·rw[bP.2 q] at hc1;cases hc1
           ·rw[bP.2 q] at hc3;cases hc3
           ·exact q
          clear hc1 cK hc3;cases d0;cases fc;subst fa;subst fb;have W:=wy ca rl (L S) rm 0 (I (G N)) cs d7 (by rw[bi.o.1];omega) (f.o.2.1.2.2.1.below cL.o.1) (eD.o.below cL.o.2)
          rw[bi.o.1] at W;go_wp2_with fail;refine W.mono ?_;clear W;rintro e eE ⟨rfl,eF⟩
          have c8:aA (C (I (G N)) N eE):=cL.o.1.trans (eF.mono cL.o.1.size)
          have W:=wy ca cd (L S) (L S) 0 0 cs eE (by rw[bi.o.1];omega) (f.o.2.1.2.2.1.below c8.o) (f.o.2.2.2.2.2.1.below c8.o)
          rw[bi.o.1] at W;clear eF cL;go_wp2_with fail;refine W.mono ?_;clear W;rintro e eG ⟨rfl,eH⟩
          have dl:aA (C (I (G N)) N eG):=c8.o.trans (eH.mono c8.o.size)
          have hz:=dl.o;obtain⟨z0,dS,_⟩:=jJ ((hz.block _ (lt_of_some f.o.2.1.1)).trans f.o.2.1.1)
          obtain⟨dT,dU,_⟩:=jJ ((hz.block _ (lt_of_some f.o.2.2.1.1)).trans f.o.2.2.1.1)
          have W:=x0 ar a1 ba a2 aR bb bs bd _ _ eG (by rw[bi.o.2.1];decide) (by have:=bi.o.2.2.1;omega) (fun nd d9=>by have:=bi.o.2.2.2 nd d9;omega) (f.o.2.1.2.2.2.1.below hz) (f.o.2.2.1.2.2.2.1.below hz) (f.o.2.1.2.2.2.2.below hz) (f.o.2.2.1.2.2.2.2.below hz)
          rw[bi.o.2.1] at W;clear eH hz c8;go_wp2_with fail;refine W.mono ?_;clear W;rintro e eI ⟨rfl,eJ⟩
          have ea:aA (C (I (G N)) N eI):=dl.o.trans (eJ.mono dl.o.size)
          have hz:=ea.o;clear z0 dS dT dU;obtain⟨z0,dS,_⟩:=jJ ((hz.block _ (lt_of_some f.o.2.1.1)).trans f.o.2.1.1)
          obtain⟨dT,dU,_⟩:=jJ ((hz.block _ (lt_of_some f.o.2.2.2.1)).trans f.o.2.2.2.1)
          have W:=x0 ar ai ba al aR ao bs ap _ _ eI (by rw[bi.o.2.1];decide) (by have:=bi.o.2.2.1;omega) (fun nd d9=>by have:=bi.o.2.2.2 nd d9;omega) (f.o.2.1.2.2.2.1.below hz) (f.o.2.2.2.2.2.2.1.below hz) (f.o.2.1.2.2.2.2.below hz) (f.o.2.2.2.2.2.2.2.below hz)
          rw[bi.o.2.1] at W;clear eJ hz dl;go_wp2_with fail;refine W.mono ?_;clear W;rintro e fj ⟨rfl,fd⟩
          have cG:=cf.o.trans ((f.o.1.trans ((ea.o.trans (fd.mono ea.o.size)).mono f.o.1.size)).mono cf.o.size)
          go_wp2_with fail;go_ret;exact⟨rfl,cG⟩
         ·have cG:=cf.o.trans ((f.o.1.trans ((cL.o.1).mono f.o.1.size)).mono cf.o.size)
          go_wp2_with fail;go_ret;exact⟨rfl,cG⟩
        ·have cG:=cf.o.trans ((f.o.1.trans ((cF.o.1).mono f.o.1.size)).mono cf.o.size)
         go_wp2_with fail;go_ret;exact⟨rfl,cG⟩
       ·have cG:=cf.o.trans ((f.o.1.trans ((cE.o.1).mono f.o.1.size)).mono cf.o.size)
        go_wp2_with fail;go_ret;exact⟨rfl,cG⟩
end TCu
end Go.Proofs.YtpkjkjhanlbcoaaGreat
