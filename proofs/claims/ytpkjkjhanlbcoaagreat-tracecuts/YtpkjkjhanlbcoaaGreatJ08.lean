import Derived.Test.YtpkjkjhanlbcoaaGreatJ07
open Array renaming getElem?_modify->bL,size->I
open Bool renaming false->Nb,true->Nc
open Go renaming Addr->bG,Calls->J,TypeId->bU,Value->bD,info_parts->bV,maxLen->bW,wpList_append_own->vH,wpList_append_own_at->bX
open Go.Ending renaming returned->M6
open Go.IntKind renaming i64->M4,u64->sQ
open Go.Obj renaming cells->M5
open Go.Proofs.Tryz renaming prog->Ng
open Go.RowKit renaming Below->C,intOf->bN
open Go.Value renaming agg->bF,int->U,ownBlock->Nh,pointer->bJ,slice->M0,tuple->a8
open Go.World renaming cell?->V,frozen?->bO,heap->G,ownsRow->aC,setCell->ay
open Iff renaming rfl->iy
open Int renaming toNat->Na
open List renaming getD->X,length->L,length_replicate->hV,mem_append->bE,mem_or_eq_of_mem_set->ko,replicate->A
open Nat renaming le_of_lt->wI,min->pq,min_def->tV,succ_pos->j3
open Option renaming map_some->bS,none->Y,some->Z
namespace Go.Proofs.YtpkjkjhanlbcoaaGreat
set_option maxRecDepth 100000
set_option maxHeartbeats 4000000
open Tryz
open Go.RowKit W Kp cq
theorem uh {P:Prop}(h:P:=by rw[hW0];exact hB1.trans ((((Fr.refl (fun k=>k=I (G w)) w1).set (I (G w)) 0 _ rfl).set (I (G w)) 1 _ rfl).below (wI l1) (fun x e=>by have e:x=I (G w):=e;omega))):P:=h
theorem zk {P:Prop}(h:P:=by
 rcases ko hy with hy|hy
 ·exact aM ⟨y,hy,hl,o,e⟩
 ·subst hy;have e:a2=Z ⟨k,o,Y⟩:=e;exact aK (cv hr k (by rw[e];rfl)).1):P:=h
theorem ri {P:Prop}(h:P:=by have:=(List.getElem?_eq_some_iff.1 hj).1;simpa using this):P:=h
theorem rj {P:Prop}(h:P:=by unfold cw.full at hf;have:=of_decide_eq_false hf;omega):P:=h
theorem zl {P:Prop}(h:P:=by
 refine cM h4 (fun k e=>aX _ _ _ _ (fun c=>?_))
 obtain⟨cur,ix⟩:=fF h4 k e;rw[c,hk4] at ix;simp at ix):P:=h
theorem zm {P:Prop}(h:P:=by
 have:=hi;rw[<-h.nd,iG,List.getElem?_map] at this
 obtain⟨x,hx,e⟩:=Option.map_eq_some_iff.1 this
 exact⟨x,hx,e⟩):P:=h
section
variable {c:gZ}{k:ck}{F:Nat->Prop}{s:ct}{w:az}
theorem FO (h:(eC c k).J F s w)(ap:CI k s)(hl:s.wk.length<=10000):
 Calls Ng 112 #[aq c.pk] w fun e w'=>e=M6 (a8 #[])/\(eC c k).J F (k.mw s s.wk) w'/\ch F w F w':=by
 obtain⟨cL,b,h⟩:=h;obtain⟨c0,_,_,c4,_,c5,_,_,_,be,er,_,_,lk,_⟩:=eD h;obtain⟨ad,cap,rfl⟩:=eZ er;have bg:aA (CI k s):=ap;have bi:aA (∀a∈s.wk,(k.N:Int)<=a/\a<=2000):=ap.i1;have bx:(0:Int)<=k.N:=aa;clear ap be;go_enter func112,ntmps112;go_wp2_with fail
 go_loopw [10] (fun iv wr=>∃(j:Nat)(s1:ct),j<=s.wk.length/\iv=ak j/\aA (k.mw s (s.wk.take j)=s1)/\(cutV c k (M0 ad s.wk.length cap) b).J F s1 wr/\ch F w F wr/\aA (CI k s1/\ed k s s1)) (fun iv _=>s.wk.length-Na (bN iv))
 case atStart=>exact⟨0,s,a5 _,rfl,rfl,h,ch.refl _ _,⟨bg.o,ed.refl _ _⟩⟩
 case round=>
  obtain⟨j,s1,b0,rfl,ar,B,aB,aF⟩:=hrel;obtain⟨t,_,_,bl,_,u,_,_,_,bn,aR,_,_,b1,_⟩:=eD B;have bo:=aF.o.2.wk;rw[bo] at aR;by_cases am:j<s.wk.length
  ·obtain⟨d,f,bp,b2,hc⟩:=hZ aR aa;have aV:=hc j am;subst bp;have a4:X s.wk j 0∈s.wk:=by rw[aL,aN am];exact a9 am
   have ba:=bi.o _ a4;have N:aA (k.mw s (s.wk.take (j+1))=k.e3 s1 (X s.wk j 0)):=by
    show _=_;rw[g9 s.wk j am 0];unfold ck.mw;rw[List.foldl_append];have:=ar.o;unfold ck.mw at this
    rw[this];rfl
   generalize X s.wk j 0=a at aV ba N;have an:aA (CI k (k.e3 s1 a)/\ed k s (k.e3 s1 a)):=by obtain⟨br,bs⟩:=aF.o.1.e3 ba.1;exact⟨br,aF.o.2.trans bs⟩
   have b3:IntKind.i64.wrap (a+1)=a+1:=by rw[bA];omega
   obtain⟨bb,_⟩:=jh B;have L:=ki (a+1) wr bb;have bd:ld k.N k.y s1.g s1.ws (a+1)=k.ld s1 (a+1):=rfl;rw[bd] at L;have m:aA ((cutV c k (M0 (Z ⟨d,f,Y⟩) s.wk.length cap) b).J F s1 wr/\ch F w F wr):=⟨B,aB⟩
   clear hc a4 B aB bb bd bn aR bl;cases hls:k.ls s1 (k.ld s1 (a+1))
   ·have v:aA (k.e3 s1 a=k.st s1 (a+1) (k.nw s1 (k.ld s1 (a+1)))):=by show _=_;unfold ck.e3;rw[hls];rfl
    generalize k.e3 s1 a=S at N an v;generalize k.ld s1 (a+1)=x at L hls v;go_wp2_with fail;refine L.mono ?_;clear L;rintro e w1 ⟨rfl,i⟩
    have P:=oJ ((cutV c k (M0 (Z ⟨d,f,Y⟩) s.wk.length cap) b).below m.o.1 i) x;rw[hls] at P;clear aV t u;go_wp2_with fail;refine P.mono ?_;clear P;rintro e n ⟨rfl,W⟩
    have hb:=i.trans (W.mono i.size)
    have o:=(cutV c k (M0 (Z ⟨d,f,Y⟩) s.wk.length cap) b).below m.o.1 hb;obtain⟨t,_,_,_,_,u,_⟩:=eD o;have ao:aA ((cutV c k (M0 (Z ⟨d,f,Y⟩) s.wk.length cap) b).J F s1 n.drew/\ch F w F n.drew):=⟨(cutV c k (M0 (Z ⟨d,f,Y⟩) s.wk.length cap) b).below o (aH _ n).drew,(m.o.2.below hb).below (aH _ n).drew⟩
    clear i W o hb m;go_wp2_with fail
    go_region_held3 (fun w'=>V w' (av c.pk 0)=Z (aq c.pw)/\V w' (av c.pw 0)=Z (aq c.p)) (go_keep)
     (first
       |(go_at_call 190;refine(qZ ao.o.1 x).mono ?_;rintro e bt ⟨rfl,a0⟩;have a1:=(cutV c k (M0 (Z ⟨d,f,Y⟩) s.wk.length cap) b).below ao.o.1 a0;obtain⟨g0,_,_,_,_,g5,_⟩:=eD a1;obtain⟨g,ab⟩:=jh a1;have l:aA (_/\_/\_):=⟨g,ab,ao.o.2.below a0⟩;clear a0 a1 g ab ao)
       |(go_at_call 93;refine(lW (a+1) (k.nw s1 x) bt l.o.1).mono ?_;rintro e p ⟨rfl,g,ag⟩;obtain⟨q,ai⟩:=l.o.2.1 p _ _ g ag;obtain⟨r0,_,_,_,_,a2,_⟩:=eD q;have al:aA ((cutV c k (M0 (Z ⟨d,f,Y⟩) s.wk.length cap) b).J F S p/\ch F w F p):=⟨(by rw[v.o];exact q),l.o.2.2.trans ai⟩;clear g ag q ai l))
    clear g0 g5 r0 a2 t u;go_wp2_with fail;go_roundw
    case rel=>exact⟨j+1,S,aa,aj,N,al.o.1,al.o.2,an⟩
    case measure=>simp[bN];omega
   ·have v:aA (k.e3 s1 a=k.st s1 (a+1) 3):=by show _=_;unfold ck.e3;rw[aJ hls]
    generalize k.e3 s1 a=S at N an v;generalize k.ld s1 (a+1)=x at L hls;go_wp2_with fail;refine L.mono ?_;clear L;rintro e w1 ⟨rfl,i⟩
    have P:=oJ ((cutV c k (M0 (Z ⟨d,f,Y⟩) s.wk.length cap) b).below m.o.1 i) x;rw[hls] at P;clear aV t u;go_wp2_with fail;refine P.mono ?_;clear P;rintro e n ⟨rfl,W⟩
    have hb:=i.trans (W.mono i.size)
    have o:=(cutV c k (M0 (Z ⟨d,f,Y⟩) s.wk.length cap) b).below m.o.1 hb;obtain⟨t,_,_,_,_,u,_⟩:=eD o;obtain⟨g,ab⟩:=jh ((cutV c k (M0 (Z ⟨d,f,Y⟩) s.wk.length cap) b).below o (aH _ n).drew)
    have l:aA (_/\_/\_):=⟨g,ab,(m.o.2.below hb).below (aH _ n).drew⟩
    clear i W o hb m g ab;go_wp2_with fail
    go_region_held3 (fun w'=>V w' (av c.pk 0)=Z (aq c.pw)/\V w' (av c.pw 0)=Z (aq c.p)) (go_keep)
     (first
       |(go_at_call 191;refine(oj _).mono ?_;rintro e b4 ⟨rfl,a3⟩;have a3:=a3.symm;subst a3)
       |(go_at_call 93;refine(lW (a+1) 3 n.drew l.o.1).mono ?_;rintro e p ⟨rfl,g,ag⟩;obtain⟨q,ai⟩:=l.o.2.1 p _ _ g ag;obtain⟨r0,_,_,_,_,a2,_⟩:=eD q;have al:aA ((cutV c k (M0 (Z ⟨d,f,Y⟩) s.wk.length cap) b).J F S p/\ch F w F p):=⟨(by rw[v.o];exact q),l.o.2.2.trans ai⟩;clear g ag q ai l))
    clear r0 a2 t u;go_wp2_with fail;go_roundw
    case rel=>exact⟨j+1,S,aa,aj,N,al.o.1,al.o.2,an⟩
    case measure=>simp[bN];omega
  ·obtain rfl:j=s.wk.length:=aa;rw[bk] at ar;go_wp2_with fail;go_end0;rw[ar.o];exact⟨rfl,⟨_,_,B⟩,aB⟩
theorem FP {cL d:bD}(h:(cutV c k cL d).J F s w):c.nb≠c.pk/\c.nb≠c.pw:=by
 obtain⟨own,h,f⟩:=h;refine⟨fun e=>?_,fun e=>?_⟩
 ·have b:=h.r1;rw[e,h.k1] at b;omega
 ·have b:=h.r1;rw[e,h.w1] at b;omega
theorem FQ (h:(eC c k).J F s w)(q:CI k s):
 Calls Ng 107 #[aq c.pk] w fun e w'=>e=M6 (a8 #[])/\(eC c k).J F (k.cP s 12) w'/\ch F w F w':=by
 obtain⟨cL,d,h⟩:=h;obtain⟨c0,_,_,_,_,_,_,_,ap,_⟩:=eD h;have ab:aA (CI k s):=q;clear q;go_enter func107,ntmps107;go_wp2_with fail
 go_loopw [12] (fun iv wr=>∃(j:Nat),j<=12/\iv=ak j/\(cutV c k cL d).J F (k.cP s j) wr/\ch F w F wr) (fun iv _=>12-Na (bN iv))
 case atStart=>exact⟨0,a5 _,rfl,h,ch.refl _ _⟩
 case round=>
  obtain⟨j,ar,rfl,b,l⟩:=hrel;by_cases t:j<12
  ·obtain⟨ad,_,_,_,_,_,_,_,ag,_⟩:=eD b;obtain⟨aB,aF,hr⟩:=yR b;obtain⟨u,ai⟩:=hr j t;obtain⟨n1,aR⟩:=FP b;have m:aA (k.cP s (j+1)={(k.br (k.cP s j) (X (k.cP s j).rs j 0)).2 with rs:=(k.br (k.cP s j) (X (k.cP s j).rs j 0)).2.rs.set j (k.br (k.cP s j) (X (k.cP s j).rs j 0)).1}):=rfl;have al:aA (CI k (k.cP s j)):=(ab.o.cP j).1;have n:aA ((cutV c k cL d).J F (k.cP s j) wr.drew/\ch F w F wr.drew):=⟨(cutV c k cL d).below b (aH _ wr).drew,l.below (aH _ wr).drew⟩
   obtain⟨f,o⟩:∃f,f=k.cP s (j+1):=⟨_,rfl⟩
   rw[<-o] at m;have am:aA (f=k.cP s (j+1)):=o;clear o;generalize X (k.cP s j).rs j 0=x at u m;generalize k.cP s j=s1 at*;have j0:(0:Int)<=(j:Int):=aa;have aV:(j:Int)<12:=aa;clear hr b l;go_wp2_with fail
   go_region_held3 (fun w'=>V w' (av c.pk 0)=Z (aq c.pw)/\V w' (av c.pw 3)=Z (M0 (au c.nb) 12 12)) (go_keep)
    (first
      |(go_at_call 182;refine(q6 n.o.1 al.o x).mono ?_;rintro e g ⟨rfl,i,v⟩;obtain⟨g0,_,_,_,_,_,_,_,an,_⟩:=eD i;obtain⟨_,a0,B⟩:=yR i;obtain⟨y1,ao⟩:=B j t;have p:aA ((cutV c k cL d).J F (k.br s1 x).2 g/\ch F w F g):=⟨i,n.o.2.trans v⟩;clear i v B n))
   obtain⟨N,S⟩:=EZ p.o.1 j (k.br s1 x).1;have W:aA ((cutV c k cL d).J F f (ay g ⟨c.nb,j,Y⟩ (U M4 (k.br s1 x).1))/\ch F w F (ay g ⟨c.nb,j,Y⟩ (U M4 (k.br s1 x).1))):=⟨by rw[m.o];exact N,p.o.2.trans S⟩
   clear N S p g0 an y1 ao ad ag u ai;go_wp2_with fail;go_roundw
   case rel=>exact⟨j+1,aa,aj,by rw[<-am.o];exact W.o.1,W.o.2⟩
   case measure=>simp[bN];omega
  ·obtain rfl:j=12:=aa;go_wp2_with fail;go_end0;exact⟨rfl,⟨_,_,b⟩,l⟩
end
section
variable {a:Wc}{F:Nat->Prop}{S:cw}{w:az}
theorem FR (h:(gg a).J F S w)(d:S.full a=Nc):
 Calls Ng 50 #[aq a.pw] w fun e w'=>e=M6 (ak 3)/\C (I (G w)) w w':=by
 obtain⟨j,ar,k,f,_⟩:=h;obtain⟨l,hw,_⟩:=jB f;obtain⟨b,_⟩:=lv hw;have b:=b;obtain⟨c0,_,_,_,g,_⟩:=kt hw;have n1:=b.hg;have m:a.O-S.s.g<S.s.y:=by simpa[cw.full] using d
 go_enter func50,ntmps50;go_wp2_with fail;refine(lq w b).mono ?_;rintro e w1 ⟨rfl,c⟩
 have c1:=(c.cell (p:=av a.pw 0) g).trans c0;go_wp2_with fail;refine(pD w1 (b.below c b8)).mono ?_;rintro e n ⟨rfl,i⟩
 have hb:=c.trans (i.mono c.size)
 go_wp2_with fail;go_ret;exact⟨rfl,hb⟩
theorem FS (h:(gg a).J F S w)(hf:S.full a=Nb)(hq:L S.q+L S.r<=90000):
 Calls Ng 50 #[aq a.pw] w fun e w'=>∃i,e=M6 (ak 0)/\(gg a).J i (S.cut a) w'/\ch F w i w':=by
 have dx:∀(br:Fn)(first cap:Array bD)(w:az),(Instr.makeFunc br first cap).run Ng w=.ok (.func br first cap) w:=fun _ _ _ _=>rfl;obtain⟨cp,ar,a3,g,bs,bt,bx⟩:=h;obtain⟨b0,hw,b1⟩:=jB g;obtain⟨f,_⟩:=lv hw;have f:At w a.p a.q a.N a.O S.s.y S.s.g S.s.ws:=f;obtain⟨c0,_,_,_,cq,_⟩:=kt hw;have n1:=f.hg;have cr:S.s.y<=a.O-S.s.g:=by exact rj
 have dy:¬(a.O:Int)-S.s.g<S.s.y:=aa;have n4:=f.hO;have dz:=f.hy;have dA:=f.hN';have b2:aA (_):=CI.start f.hN f.hN' f.hO f.hy f.hg f.hl cr;have b3:=lq w f;have b4:aA (_/\_):=⟨hw,f⟩
 have cs:aA (∀{a4:Type}(o':dC a4) B ba w',o'.J B ba w'->ch b0 w B w'->_):=b1;have n:=g_ bs bt bx;clear g hw f b1 bs bt bx hf;go_enter func50,ntmps50;go_wp2_with fail;refine b3.mono ?_;clear b3;rintro e w1 ⟨rfl,N⟩
 have c1:=(N.cell (p:=av a.pw 0) cq).trans c0;have b6:=pD w1 (b4.o.2.below N b8)
 go_wp2_with fail;refine b6.mono ?_;clear b6;rintro e dB ⟨rfl,ca⟩
 have hb:=N.trans (ca.mono N.size)
 have ct:=FH ((es a).below b4.o.1 hb)
 have cx:=hide hb;clear N ca c0 c1 hb;go_wp2_with fail;refine ct.mono ?_;rintro e dD ⟨pk,cu,cU,dE,rfl,W,bb⟩
 have bb:=(ch.of (F:=b0) cx.o).trans bb;obtain⟨c,hc⟩:∃c:gZ,c=⟨pk,cu,a.pw,a.p,a.q,a.pc,cU,a.sd,a.nb,dO a.O,S.s.M⟩:=⟨_,rfl⟩
 have cy:pk=c.pk:=by rw[hc]
 have m:aA (_/\a.sd=c.sd/\c.c=dO a.O/\c.M=S.s.M/\a.pw=c.pw):=⟨hc,by rw[hc],by rw[hc],by rw[hc],by rw[hc]⟩
 rw[<-hc] at W;clear hc;subst cy;have W:=W;have cz:=FQ W b2.o;clear W;go_wp2_with fail;refine cz.mono ?_;rintro e dF ⟨rfl,bd,cA⟩
 have bd:=bd;obtain⟨k1,dG,cB,cC,k5,k6⟩:=b2.o.cP 12;have cD:=FD bd (s:=S.s.s1 a) k1 cB cC;have cE:=hide (bb.trans cA)
 go_wp2_with fail;refine cD.mono ?_;rintro e cF ⟨cG,rfl,ao,cH,ap,b5,dH⟩
 rw[m.o.2.2.1,m.o.2.2.2.1] at ao ap b5;have ao:=ao;have ap:=ap;have b5:=b5;obtain⟨dI,cb,cI⟩:=cs.o (ii c (S.s.k0 a)) cG (S.s.s2 a) cF ⟨ao,ap,b5⟩ (cE.o.trans cH)
 rw[m.o.2.1] at cb;have cJ:=zb (c:=c) rfl cb (by show L S.q<=90000;omega)
 have cK:=hide cI;go_wp2_with fail;refine cJ.mono ?_;rintro e j ⟨dJ,rfl,aB,be⟩
 have aB:=aB;have be:=cK.o.trans be;obtain⟨dK,⟨⟨dL,dM,cN⟩,_⟩,_⟩:=jB aB;obtain⟨o,_,_,_,_,_,_,cc,_⟩:=eD cN;have l0:=aT j _ o;have cO:=aT j _ cc;have k:aA (_/\_):=⟨(di (ii c (S.s.k0 a)) c.sd (M0 ar (L S.r) a3)).below aB (aH _ j).drew,be.below (aH _ j).drew⟩
 have cP:L (S.t3 a).2+L S.r<=90000:=by have:L (S.t3 a).2=L S.q:=pL _ _ _;omega
 go_wp2_with fail
 go_region_held3 (fun w'=>V w' (av c.pk 0)=Z (aq c.pw)/\V w' (av c.pw 2)=Z (aq c.sd)) (go_keep)
  (first
    |(go_at_call 110;refine(y5 (nI c) j.drew c.pk).mono ?_;rintro e cQ ⟨rfl,cR,bg⟩;have dN:=(bg.cell (p:=av c.pk 0) l0).trans o;have dP:=(bg.cell (p:=av c.pw 2) cO).trans cc;have q:aA (_/\_):=⟨cR,bg⟩)
    |(go_at_call 78;refine(FL (t:=S.t3 a) (r:=S.r) rfl ((di (ii c (S.s.k0 a)) c.sd (M0 ar (L S.r) a3)).below k.o.1 q.o.2) (by exact cM n.o.1 (fun b e=>(q.o.2.block b (aO (cv n.o.1 b e).2 k.o.2.fr.size)).trans (k.o.2.fr.block b (cv n.o.1 b e).2 (n.o.2.1 b e)))) cP (I (G j)) q.o.1 (fun d=>by have:=(di (ii c (S.s.k0 a)) c.sd (M0 ar (L S.r) a3)).lt k.o.1 _ d;have cS:I (G j.drew)=I (G j):=rfl;omega)).mono ?_;rintro e aF ⟨a1,c1,cT,rfl,cd,aR,ab,cV,cW⟩;obtain⟨ad,⟨⟨dQ,dR,ag⟩,_⟩,_⟩:=jB cd;obtain⟨r0,_,_,_,_,_,_,dS,_⟩:=eD ag;have ce:aA (_/\_/\_/\I (G w)<=I (G cQ)/\ch cp w cT aF):=⟨cd,aR,ab,aU k.o.2.fr.size q.o.2.size,⟨(k.o.2.below q.o.2).fr.trans cV (fun b d=>d.elim (k.o.2.sub b) (fun d=>aK (by have:=k.o.2.fr.size;have cS:I (G j.drew)=I (G j):=rfl;omega))),fun b d=>(cW b d).elim (k.o.2.sub b) (fun d=>aK (by have g:=k.o.2.fr.size;have aV:=q.o.2.size;omega))⟩⟩))
 obtain⟨ad,⟨ag,ai,a0⟩,cX⟩:=jB ce.o.1;have ag:(eC c (S.s.k0 a)).J ad (S.s4 a) aF:=ag;have ai:CI (S.s.k0 a) (S.s4 a):=ai;have a0:eB (S.s.k0 a) (S.s4 a):=a0;obtain⟨bi,cY⟩:=ai.mw (l:=(S.s4 a).wk) (fun x cZ=>(ai.i1 x cZ).1)
 have bi:CI (S.s.k0 a) (S.s5 a):=bi;have c2:=FO ag ai (by have:=a0.wk;omega)
 have cf:aA (CI (S.s.k0 a) (S.s5 a)/\L (S.s5 a).ep<=10000):=⟨bi,by have g:(S.s5 a).ep=(S.s4 a).ep:=cY.ep;rw[g];have:=a0.ep;omega⟩
 have c3:aA (∀{a4:Type}(o':dC a4) B ba w',o'.J B ba w'->ch ad aF B w'->_):=cX;go_wp2_with fail;refine c2.mono ?_;rintro e dT ⟨rfl,bl,c4⟩
 have bl:=bl;have c5:=FN bl cf.o.1 cf.o.2;go_wp2_with fail;refine c5.mono ?_;rintro e u ⟨rfl,v,bn⟩
 have v:=v;obtain⟨cL,c6,cg⟩:=v;obtain⟨o,_,_,_,_,ci,_⟩:=eD cg;have v:(eC c (S.s.k0 a)).J ad (S.s6 a) u:=⟨cL,c6,cg⟩
 rw[m.o.1] at v;obtain⟨al,c7,c8,c9⟩:=FM (pk:=c.pk) (a:=a) v;obtain⟨da,db⟩:=lv c7;have bn:ch ad aF al u:=⟨(c4.trans bn).fr,fun b hb=>aM (c8 b hb)⟩
 have dc:=xE u da;have bo:aA (_/\_/\∀w',At w' a.p a.q a.N a.O 0 (S.s6 a).g (S.s6 a).ws->dj a.p a.q u w'->(es a).J al ⟨0,(S.s6 a).g,(S.s6 a).ws,S.s.M,(S.s6 a).rs⟩ w'/\ch al u al w'):=⟨bn,c9,fun w' g aV=>db w' _ _ _ g aV⟩
 have dd:=aT u _ o;have de:=m.o.2.2.2.2.symm;have ep:c.p=a.p:=by rw[m.o.1]
 rw[de] at o ci;rw[ep] at ci;go_wp2_with fail;refine dc.mono ?_;rintro e am ⟨rfl,df,dg⟩
 obtain⟨cj,ck⟩:=bo.o.2.2 am df dg;obtain⟨dh,dk,dl⟩:=ze cj;obtain⟨_,dU,_⟩:=kt cj;have dV:=(aQ (a:=⟨c.pk,0,Y⟩) (ck.fr.block c.pk dd bo.o.2.1)).trans o;have dm:=tY am dk.hp;have cl:aA (_/\∀w',Cd w' a.pc (I (G am)) a.N (dO a.O) []->dj a.pc dh am w'->∃i,(es a).J i ⟨0,(S.s6 a).g,(S.s6 a).ws,[],(S.s6 a).rs⟩ w'/\ch al am i w'):=⟨bo.o.1.trans ck,fun w' g aV=>dl w' _ _ g aV (aK b8)⟩
 go_wp2_with fail;refine dm.mono ?_;rintro e a2 ⟨rfl,dn,an⟩
 have dp:aA (∃i,(gg a).J i (S.cut a) a2/\ch F w i a2):=by
  obtain⟨dq,dr,ds⟩:=cl.o.2 a2 dn ⟨an.os,an.tape,an.output,an.size,fun b hb g _=>an.block b hb g g⟩
  obtain⟨cm,cn,bp⟩:=c3.o (es a) dq _ a2 dr (cl.o.1.trans ds)
  obtain⟨_,aR,ab,dt,du⟩:=ce.o;have dv:S.cut a=⟨⟨0,(S.s6 a).g,(S.s6 a).ws,[],(S.s6 a).rs⟩,(S.s.k0 a).sR (S.t3 a) S.r,(S.s.k0 a).jM (S.t3 a) S.r⟩:=by unfold cw.cut;rw[aI];unfold cw.full;simp;omega
  rw[dv];rw[<-m.o.2.1] at cn;have co:=du.trans bp;refine⟨fun b=>cm b\/Z b=Nh (Value.slice a1 (L ((S.s.k0 a).sR (S.t3 a) S.r)) c1),⟨cm,a1,c1,cn,iF aR bp.fr (fun b e=>(ab b e).1),fun b e d=>(bp.sub b d).elim (ab b e).1 (fun d=>by have:=(cv aR b e).2;omega),fun b=>iy⟩,⟨co.fr.mono (fun b d=>(n.o.2.2 b).2 (aM d)),fun b d=>?_⟩⟩
  rcases d with d|d
  ·exact(co.sub b d).imp (fun d=>(n.o.2.2 b).2 (aM d)) id
  ·exact aK (aU dt (ab b d).2)
 go_wp2_with fail;go_ret;obtain⟨i,dw,j2⟩:=dp.o;exact⟨i,rfl,dw,j2⟩
theorem FT (h:(gg a).J F S w)(hq:L S.q+L S.r<=90000):
 Calls Ng 50 #[aq a.pw] w fun e w'=>∃c,e=M6 (ak (S.code a))/\(gg a).J c (S.cut a) w'/\ch F w c w':=by
 cases hf:S.full a
 ·have b:S.code a=0:=by unfold cw.code;rw[hf];rfl
  rw[b];exact FS h hf hq
 ·have b:S.code a=3:=by unfold cw.code;rw[aJ hf]
  have d:S.cut a=S:=by unfold cw.cut;rw[aJ hf]
  rw[b,d];refine(FR h hf).mono ?_;rintro e w' ⟨rfl,hb⟩
  exact⟨F,rfl,(gg a).below h hb,ch.of hb⟩
end
section
variable {s:cn}
def cn.th (s:cn)(i:Nat):Int:=if(X s.rs i (0,0)).1=3 then(X s.rs i (0,0)).2 else-1
end
def cn.gc (s:cn)(A:Nat)(I:Int):Int:=if s.th A<0\/(X s.T (Na (s.th A)) (0,[],Nb,Nb)).1=5 then 2 else if I<0\/(L (X s.T (Na (s.th A)) (0,[],Nb,Nb)).2.1:Int)<=I then 1 else 0
theorem FU (w:az)(B:Nat)(l1 l2:List cf)(f g:bG)(c1 c2:Nat)(q:V w (av B 0)=Z (M0 (Z f) (L l1) c1))(F:V w (av B 1)=Z (M0 (Z g) (L l2) c2))(N:dA w (Z f) l1)(S:dA w (Z g) l2)(hm:L l1+L l2<=100000):
 J Ng 230 #[M0 (au B) 2 2] w fun e w'=>∃a c,e=M6 (M0 a (L l1+L l2) c)/\aC w' (I (G w)) 103 2 (M0 a (L l1+L l2) c) (L l1+L l2) (ev (l1++l2))/\C (I (G w)) w w':=by
 obtain⟨s,hi,t,u,x⟩:=bV oq;have W:=hide N;have ab:=hide S;have hB:=aT w _ q;go_enter func230,ntmps230;go_wp2
 go_loopw [3,11] (fun i iv wr=>wr=w/\((iv=ak 0/\i=ak 0)\/(iv=ak 1/\i=ak (L l1))\/(iv=ak 2/\i=ak (L l1+L l2:Nat)))) (fun _ iv _=>2-Na (bN iv))
 exact⟨rfl,aM ⟨rfl,rfl⟩⟩
 ·
   obtain⟨hw,⟨rfl,rfl⟩|⟨rfl,rfl⟩|⟨rfl,rfl⟩⟩:=hrel
   all_goals
    have hw:=hw.symm;subst hw
   ·go_wp2;go_roundw;exact⟨trivial,aK (aM ⟨aj,aj⟩)⟩
    simp[bN]
   ·go_wp2;go_roundw;exact⟨trivial,aK (aK ⟨aj,aj⟩)⟩
    simp[bN]
   ·go_wp2_with fail;refine(Ed w (L l1+L l2) hm).mono ?_;rintro e w1 ⟨a1,ad,rfl,b,hb⟩
    go_wp2
    go_loopw [6,27] (fun j iv wk=>C (I (G w)) w wk/\((∃a c,iv=ak 0/\j=M0 a 0 c/\aC wk (I (G w)) 103 2 (M0 a 0 c) 0 [])\/(∃a c,iv=ak 1/\j=M0 a (L l1) c/\aC wk (I (G w)) 103 2 (M0 a (L l1) c) (L l1) (ev l1))\/(∃a c,iv=ak 2/\j=M0 a (L l1+L l2) c/\aC wk (I (G w)) 103 2 (M0 a (L l1+L l2) c) (L l1+L l2) (ev (l1++l2))))) (fun _ iv _=>2-Na (bN iv))
    exact⟨hb,aM ⟨a1,ad,rfl,rfl,b⟩⟩
    ·
      obtain⟨hb,⟨a,c,rfl,rfl,b⟩|⟨a,c,rfl,rfl,b⟩|⟨a,c,rfl,rfl,b⟩⟩:=hrel
      ·have ag:=(hb.cell (p:=av B 0) hB).trans q;have hs:=hb.size;go_wp2_with (at_builtin;refine vH _ rfl _ _ 151 rfl (I (G w)) 103 s (bF #[ak 0,ak 0]) 2 16 underlying151 hi t u x rfl ae (M0 a 0 c) 0 [] rfl b f (L l1) c1 (ev l1) rfl (lh l1) ((W.o.below hb).cells f rfl) (ot l1) ?_ ?_ hs ?_;(unfold bW;omega);omega;intro v ai d l _;rw[Nat.zero_add,List.nil_append] at d;obtain⟨a2,m,n⟩:=eZ d;subst n)
       have o:=hb.grown l hs (fun k e=>(cv b k e.symm).1)
       go_wp2;go_roundw;exact⟨o,aK (aM ⟨a2,m,aj,rfl,d⟩)⟩
       simp[bN]
      ·have ag:=(hb.cell (p:=av B 1) hB).trans F;have hs:=hb.size;go_wp2_with (at_builtin;refine vH _ rfl _ _ 151 rfl (I (G w)) 103 s (bF #[ak 0,ak 0]) 2 16 underlying151 hi t u x rfl ae (M0 a (L l1) c) (L l1) (ev l1) rfl b g (L l2) c2 (ev l2) rfl (lh l2) ((ab.o.below hb).cells g rfl) (ot l2) ?_ ?_ hs ?_;(unfold bW;omega);omega;intro v ai d l _;rw[<-jp] at d;obtain⟨a2,m,n⟩:=eZ d;subst n)
       have o:=hb.grown l hs (fun k e=>(cv b k e.symm).1)
       go_wp2;go_roundw;exact⟨o,aK (aK ⟨a2,m,aj,rfl,d⟩)⟩
       simp[bN]
      ·go_wp2;go_ret;exact⟨a,c,rfl,b,hb⟩
structure fU (w:az)(p:Nat)(a0:Option bG)(k0:Nat)(a1:Option bG)(k1:Nat)(r q:List cf):Prop where
 blk:w.heap[p]?=Z (M5 #[M0 a0 (L r) k0,M0 a1 (L q) k1] 153 (0,0))
 r0:aC w 0 103 2 (M0 a0 (L r) k0) (L r) (ev r)
 q0:aC w 0 103 2 (M0 a1 (L q) k1) (L q) (ev q)
theorem rk {w:az}{base:Nat}{e:bU}{ad:Option bG}{cap:Nat}{l:List cf}(h:aC w base e 2 (M0 ad (L l) cap) (L l) (ev l)):iU w ad l cap:=by
 refine⟨it h,?_,?_⟩
 ·rcases h.2 with⟨hv,h0⟩|⟨g,b,c,hv,_,_,hc,_⟩
  ·omega
  ·simp at hv;omega
 ·intro d;rcases h.2 with⟨hv,h0⟩|⟨g,b,c,hv,_⟩
  ·simp at hv;exact⟨h0,hv.2.2⟩
  ·rw[d] at hv;simp at hv
theorem fU.keep {w w':az}{p:Nat}{a0 a1:Option bG}{k0 k1:Nat}{r q:List cf}(h:fU w p a0 k0 a1 k1 r q)(b:w'.heap[p]?=w.heap[p]?)(c:∀k,Z k=Nh (Value.slice a0 (L r) k0)->w'.heap[k]?=w.heap[k]?)(d:∀k,Z k=Nh (Value.slice a1 (L q) k1)->w'.heap[k]?=w.heap[k]?):fU w' p a0 k0 a1 k1 r q:=
 ⟨b.trans h.blk,cM h.r0 c,cM h.q0 d⟩
theorem fU.below {w w':az}{p:Nat}{a0 a1:Option bG}{k0 k1:Nat}{r q:List cf}(h:fU w p a0 k0 a1 k1 r q)(hb:C (I (G w)) w w'):fU w' p a0 k0 a1 k1 r q:=
 h.keep (hb.block p (lt_of_some h.blk)) (fun k e=>hb.block k (cv h.r0 k e).2) (fun k e=>hb.block k (cv h.q0 k e).2)
theorem fU.np {w:az}{p:Nat}{a0 a1:Option bG}{k0 k1:Nat}{r q:List cf}(h:fU w p a0 k0 a1 k1 r q){b n:Nat}{v:bD}{l:List bD}(hr:aC w b 103 2 v n l):∀k,Z k=Nh v->k≠p:=by intro k e c;obtain⟨d,hc⟩:=fF hr k e;rw[c,h.blk] at hc;simp at hc
def ku (n:Nat):Bool:=decide (24<=n)
theorem rn {n:Nat}(h:24<=n):ku n=Nc:=by simp[ku,h]
theorem ru {n:Nat}(h:¬24<=n):ku n=Nb:=by simp[ku,h]
theorem FV {n0 n1:Nat}(h0:n0<=100000)(b:n1<=100000):aA (decide ((24:Int)<=IntKind.i64.wrap ((n0:Int)+(n1:Int)))=ku (n0+n1)):=by
 show _=_;rw[show IntKind.i64.wrap ((n0:Int)+(n1:Int))=(n0:Int)+n1 by rw[bA];omega];unfold ku;by_cases h:24<=n0+n1
 ·rw[bv h,bv aa]
 ·rw[bC h,bC aa]
theorem zn (w:az)(p:Nat)(a0 a1:Option bG)(n0 k0 n1 k1:Nat)(h:w.heap[p]?=Z (M5 #[M0 a0 n0 k0,M0 a1 n1 k1] 153 (0,0)))(h0:n0<=100000)(b:n1<=100000):
 J Ng 103 #[aq p] w fun e w'=>e=M6 (.bool (ku (n0+n1)))/\C (I (G w)) w w':=by
 have c0:V w (av p 0)=Z (M0 a0 n0 k0):=aD h
 have c1:V w (av p 1)=Z (M0 a1 n1 k1):=aD h
 clear h;have c:=FV h0 b;go_enter func103,ntmps103;go_wp2_with fail
 go_region_held3 (fun w'=>V w' (av p 0)=Z (M0 a0 n0 k0)/\V w' (av p 1)=Z (M0 a1 n1 k1)) (go_keep) (fail)
 go_wp2_with fail;go_ret;exact⟨by rw[<-c.o];rfl,b9.drew⟩
theorem fU.cells {w:az}{p:Nat}{a0 a1:Option bG}{k0 k1:Nat}{r q:List cf}(h:fU w p a0 k0 a1 k1 r q):V w (av p 0)=Z (M0 a0 (L r) k0)/\V w (av p 1)=Z (M0 a1 (L q) k1)/\bO w (av p 0)=Nb/\bO w (av p 1)=Nb/\p<I (G w):=
 ⟨by simp[World.cell?,h.blk],by simp[World.cell?,h.blk],by simp[World.frozen?,h.blk],by simp[World.frozen?,h.blk],lt_of_some h.blk⟩
theorem FX {w:az}{p:Nat}{x y v:bD}{T:bU}(h:w.heap[p]?=Z (M5 #[x,y] T (0,0))):(ay w ⟨p,0,Y⟩ v).heap[p]?=Z (M5 #[v,y] T (0,0)):=by exact tP
theorem FY {w:az}{p:Nat}{x y v:bD}{T:bU}(h:w.heap[p]?=Z (M5 #[x,y] T (0,0))):(ay w ⟨p,1,Y⟩ v).heap[p]?=Z (M5 #[x,v] T (0,0)):=by exact tP
theorem zo (w:az)(p:Nat)(a0 a1:Option bG)(k0 k1:Nat)(r q:List cf)(g z:Int)(h:fU w p a0 k0 a1 k1 r q)(h0:L r<=90000)(F:L q<=90000):
 J Ng 49 #[aq p,bF #[ak g,ak z]] w fun e w'=>e=M6 (.bool (!ku (L r+L q)))/\
  ((24<=L r+L q/\C (I (G w)) w w')\/(¬24<=L r+L q/\∃b1 c1,fU w' p (au b1) c1 a1 k1 (r++[(g,z)]) q/\I (G w)<=b1/\Fr (fun k=>k=p) w w')):=by
 obtain⟨c0,c1,s,N,lp⟩:=h.cells;have H:aA (fU w p a0 k0 a1 k1 r q):=h;have d:=aw w (M5 #[U M4 g,U M4 z] 103)
 have t:aA (iU w a0 r k0):=rk h.r0;by_cases b:24<=L r+L q
 ·rw[rn b];clear h;go_enter func49,ntmps49;go_wp2_with fail;refine(zn _ p a0 a1 (L r) k0 (L q) k1 ((d.block p lp).trans H.o.blk) aa aa).mono ?_;rintro e w1 ⟨rfl,hb⟩
  rw[rn b];have c:=d.trans (hb.mono ac)
  go_wp2_with fail;go_ret;exact⟨rfl,aM ⟨b,c⟩⟩
 ·rw[ru b];clear h;go_enter func49,ntmps49;go_wp2_with fail;refine(zn _ p a0 a1 (L r) k0 (L q) k1 ((d.block p lp).trans H.o.blk) aa aa).mono ?_;rintro e w1 ⟨rfl,hb⟩
  rw[ru b];have c:=d.trans (hb.mono ac)
  have S:I (G w)<I (G w1):=by have:=hb.size;simp at this;omega
  have W:V w1 (av (I (G w)) 0)=Z (ak g):=(hb.cell ac).trans ac;have y1:V w1 (av (I (G w)) 1)=Z (ak z):=(hb.cell ac).trans ac;have u:=(c.cell (p:=av p 0) lp).trans c0;have v:=(c.frozen (p:=av p 0) lp).trans s;have m:p<I (G w1):=aa;have x:=t.o.below c;clear hb d;go_wp2_with fail
  go_region_with (go_at_call 104;refine(xe _ a0 r k0 g z (x.below (b9.drew)) aa).mono ?_;rintro e f ⟨b1,gN,rfl,j,l⟩;have ab:=(l.cell (p:=av p 0) m).trans u;have ad:=(l.frozen (p:=av p 0) m).trans v)
  all_goals
   go_wp2_with fail;go_ret;refine⟨rfl,aK ⟨b,b1,gN,?_⟩⟩
   have n:C (I (G w)) w f:=c.drew.trans (l.mono (by simp;omega))
   have lb:I (G w1)<=b1:=(cv j b1 rfl).1;have i:=H.o.below n;have B:Fr (fun k=>k=p) w (ay f ⟨p,0,Y⟩ (M0 (Z ⟨b1,0,Y⟩) (L r+1) gN)):=(Fr.of n).set p 0 _ rfl;have o:∀k,k≠p->(ay f ⟨p,0,Y⟩ (M0 (Z ⟨b1,0,Y⟩) (L r+1) gN)).heap[k]?=f.heap[k]?:=fun k hk=>aX _ _ _ _ hk;refine⟨⟨by simpa using FX i.blk,?_,cM i.q0 (fun k e=>o k (i.np i.q0 k e))⟩,aa,B⟩
   have:=fq (base':=0) (cM (w':=ay f ⟨p,0,Y⟩ (M0 (Z ⟨b1,0,Y⟩) (L r+1) gN)) j (fun k e=>o k (i.np j k e))) (fun _ _=>a5 _)
   simpa using this
section
variable {a:Wc}{F:Nat->Prop}{S:cw}{w:az}
theorem nK (h:(gg a).J F S w):∃i,(es a).J i S.s w/\∀f s1 w',(es a).J f s1 w'->ch i w f w'->∃d,(gg a).J d ⟨s1,S.r,S.q⟩ w'/\ch F w d w':=by
 obtain⟨i,ar,k,l,j,p,q⟩:=h;obtain⟨m,g1,g2⟩:=jB l;refine⟨m,g1,fun f s1 w' n o=>?_⟩
 obtain⟨d,k1,g⟩:=g2 (es a) f s1 w' n o;refine⟨fun b=>d b\/Z b=Nh (Value.slice ar (L S.r) k),⟨d,ar,k,k1,cM j (fun b e=>g.fr.block b (cv j b e).2 (by grind)),fun b e c=>?_,fun b=>iy⟩,⟨g.fr.mono (by grind),fun b c=>?_⟩⟩
 ·rcases g.sub b c with c|c
  ·grind
  ·have:=(cv j b e).2;omega
 ·rcases c with c|c
  ·exact(g.sub b c).imp (by grind) id
  grind
theorem FZ {s:eE}(h:(es a).J F s w)(x i z:Int)(hM:L s.M<=100000):
 Calls Ng 44 #[aq a.pw,ak x,ak i,ak z] w fun e w'=>e=M6 (ak (eO a.N s.y s.g s.ws x i))/\(es a).J F {s with ws:=gP a.N s.y s.g s.ws x i z,M:=stM a.N s.y s.g s.ws x i z (dO a.O) s.M} w'/\ch F w F w':=by
 obtain⟨own,cU,h,j⟩:=h;refine(EE x i z ⟨h.wd,h.ar,h.cd⟩ hM).mono ?_;rintro e w' ⟨rfl,d,fr⟩
 refine⟨rfl,⟨own,cU,?_,j⟩,⟨fr.mono (fun b c=>?_),fun _ c=>aM c⟩⟩
 ·have hb:∀b,b<I (G w)->own b≠1->own b≠2->_=_:=fun b hb f g=>fr.block b hb (fun c=>by
   rcases c with c|c|c|c
   ·exact f ((c▸h.a1))
   ·exact f ((c▸h.a2))
   ·exact g ((c▸h.c1))
   ·exact g ((c▸h.c2)))
  exact {
   ar:=d.ar,cd:=d.cd,wd:=d.blk,a1:=h.a1,a2:=h.a2,c1:=h.c1,c2:=h.c2,w1:=h.w1,rl:=h.rl,r1:=h.r1,le:=h.le,lt:=fun b hb=>aO (h.lt b hb) fr.size
   rt:=(by grind [dX.rt,dX.r1])}
 grind [dX.a1,dX.a2,dX.c1,dX.c2]
theorem F0 (h:(gg a).J F S w)(g z:Int)(hr:L S.r<=90000)(hq:L S.q<=90000):
 Calls Ng 49 #[aq a.sd,bF #[ak g,ak z]] w fun e w'=>∃f,e=M6 (.bool (!ku (L S.r+L S.q)))/\(gg a).J f (if 24<=L S.r+L S.q then S else⟨S.s,S.r++[(g,z)],S.q⟩) w'/\ch F w f w':=by
 have j:=h;obtain⟨i,ar,k,⟨l,ad,cap,m,n,o,p,q,s,t,u⟩,r0,r1,v⟩:=h;refine(zo w a.sd ar ad k cap S.r S.q g z ⟨n,r0,o⟩ hr hq).mono ?_;rintro e w' ⟨rfl,⟨d,hb⟩|⟨d,b1,c1,hs,x,fr⟩⟩
 ·exact⟨F,rfl,(aJ d▸(gg a).below j hb),ch.of hb⟩
 ·refine⟨fun b=>i b\/Z b=Nh (Value.slice (au b1) (L (S.r++[(g,z)])) c1),rfl,?_,⟨(by grind [Fr.mono]),fun b c=>?_⟩⟩
  ·rw[aI d];refine⟨i,Z _,c1,⟨l,ad,cap,(es a).keep m fr.size (by grind [Fr.block]),hs.blk,hs.q0,p,q,s,t,fun b c=>aO (by grind) fr.size⟩,hs.r0,fun b e c=>?_,fun b=>iy⟩
   simp[Value.ownBlock] at e
   grind
  ·rcases c with c|c
   ·grind
   ·simp[Value.ownBlock] at c;omega
end
structure kP where
 a:Wc
 rp:Nat
 rb:Nat
 cj:Int
 b_:Int
 pb:Nat
def Lq (w:az)(ad:Option bG)(l:List Int):Prop:=jb w ad l/\(0<L l->∃b o c,ad=Z ⟨b,o,Y⟩/\w.heap[b]?=Z (M5 c 2 (0,0)))
theorem Lq.kf {B:Nat}{w w':az}{ad:Option bG}{l:List Int}(h:Lq w ad l)(k:Kf B w w'):Lq w' ad l:=by exact yx
theorem Lq.of {w:az}{base cap:Nat}{ad:Option bG}{l:List Int}(h:aC w base 2 1 (M0 ad (L l) cap) (L l) (l.map (Value.int M4))):Lq w ad l:=by
 refine⟨hZ h,fun hp=>?_⟩
 obtain⟨b,c0,c⟩:=eW h hp;obtain⟨d,hc⟩:=fF h b (by rw[c];rfl)
 cases c;exact⟨b,0,d,rfl,hc⟩
section
variable {w0 w:az}{kb cu pw n:Nat}{T:List Int}{kd:Int->Int}{sh:Int->List Int}{M:cX->Int->cX}{s:cX}{vn:bD}{m:List d6}
theorem zp (hM:oI w0 kb cu pw T M n)(an:lO T kd sh n M)(h:Wk w0 w kb cu pw T s vn m)(ho:fB T s)(hn:L T<=L s.1+n)(l:List Int)(ad:Option bG)(cap:Nat)(hl:Lq w ad l)(hm:L l<=100000):
 J Ng 65 #[aq kb,M0 ad (L l) cap] w fun e w'=>∃bn B a2 c2,e=M6 (M0 a2 (L l) c2)/\aC w' w.heap.size 97 2 (M0 a2 (L l) c2) (L l) (ev (dG M T s l).1)/\Wk w0 w' kb cu pw T (dG M T s l).2 bn B/\f4 w0 w m w' B/\(∀k,fT B k->Z k≠Nh (Value.slice a2 (L l) c2)):=by
 obtain⟨ao,hi,ap,ar,aB⟩:=bV yT;have bo:=hide hM;have bp:=hide an;have br:=hide hl;have F:=hide h;have bs:=hide ho;clear hM an hl h ho;go_enter func65,ntmps65;go_wp2_with (at_make;refine wpList_make_own _ rfl _ _ 57 rfl w.heap.size 97 ao (bF #[ak 0,ak 0]) 2 underlying57 hi ap ar M4 M4 _ (L l) rfl rfl rfl (by rw[aB];omega) (by unfold bW;omega) b8 ?_;intro w1 bt bx)
 have aF:=(ax w).grown bx b8 (fun k e=>by cases e)
 go_loopw [5,13] (fun tv iv wr=>∃(j:Nat)(f:List (Int×Int))(s1:cX)(N:bD)(m1:List d6)(a2:Option bG)(c2:Nat),j<=L l/\iv=ak j/\aA (dG M T s (l.take j)=(f,s1))/\tv=M0 a2 j c2/\aC wr w.heap.size 97 2 (M0 a2 j c2) j (ev f)/\aA (Wk w0 wr kb cu pw T s1 N m1)/\aA (f4 w0 w m wr m1)/\aA (∀k,fT m1 k->Z k≠Nh (Value.slice a2 j c2))/\aA (fB T s1/\L T<=L s1.1+n)) (fun _ iv _=>L l-Na (bN iv))
 ·exact⟨0,[],s,vn,m,_,_,a5 _,rfl,rfl,rfl,bt,F.o.below aF,f4.of aF,fun k hk e=>by have:=F.o.fb k hk;simp[Value.ownBlock] at e;omega,⟨bs.o,hn⟩⟩
 ·
   obtain⟨j,f,s1,N,m1,a2,c2,b,rfl,S,rfl,i,W,p,ab,g⟩:=hrel;by_cases aR:j<L l
   ·obtain⟨cf,cg,b0,ch,hc⟩:=(br.o.kf p.o.1).1 aa;have aV:=hc j aR;subst b0;clear hc;have d:=sL M T s (l.take j) (X l j 0)
    rw[<-g9 l j aR 0,S.o] at d;have d:=hide d;generalize X l j 0=x at aV d;have P:=Fe bo.o W.o g.o.1 g.o.2 x;have G:=po bp.o g.o.1 g.o.2 x;have a0:aA (fB T (eL M T s1 x).2/\L T<=L (eL M T s1 x).2.1+n):=⟨G.ok,by have:=G.le;have:=g.o.2;omega⟩
    clear G;generalize (eL M T s1 x).2=s2 at P d a0;obtain⟨u,v,a1⟩:∃u v,(eL M T s1 x).1=(u,v):=⟨_,_,rfl⟩
    rw[a1] at P d;clear a1;go_wp2_with fail;refine P.mono ?_;rintro e ag ⟨b1,ai,rfl,a3,q⟩
    have a4:=cM i (fun k hk=>by obtain⟨ba,al⟩:=fF i k hk;exact q.1.df k _ _ _ al ae ae)
    have bb:aA (∀k,fT ai k->Z k≠Nh (Value.slice a2 j c2)):=fun k hk e=>(q.2 k hk).elim (fun c=>ab.o k c e) (fun c=>by have:=(cv i k e).2;omega)
    have bd:=hide (p.o.trans q)
    have ci:=bd.o.1.size;have be:=hide a3;clear i q p ab W g aV a3;have t:=hide a4;go_wp2_with (at_builtin;refine bX _ rfl _ _ 57 rfl w.heap.size 97 ao (bF #[ak 0,ak 0]) 2 16 underlying57 hi ap ar aB rfl ae (M0 a2 j c2) j (ev f) rfl (fC a4 _) ⟨ag.heap.size,0,Y⟩ 1 1 [ak u,ak v] rfl rfl ?_ ?_ ?_ ?_ ?_ ?_;(intro j u b;match j,b with|0,b=>(simp at b;subst b;simp[Addr.add])|1,b=>(simp at b;subst b;simp[Addr.add]));(intro u o;simp at o;rcases o with o|o<;>(subst o;rfl));(unfold bW;omega);omega;(simp;omega);intro cj b2 bg b3 _ b5;obtain⟨b4,bi,b6⟩:=eW bg (j3 _);subst b6)
    have ca:aC b2 w.heap.size 97 2 (M0 (au b4) (j+1) bi) (j+1) (ev (f++[(u,v)])):=by rw[jp];simpa[ev] using bg
    have am:=aw ag (M5 #[U M4 u,U M4 v] 97)
    have bl:=(Fr.refl _ _).grown b3 (fun k e=>aM e.symm)
    have cb:=hide ((be.o.below am).but bl (fun k _ e=>by obtain⟨ba,al⟩:=fF t.o k e;exact⟨⟨ba,(am.block k (cv t.o k e).2).trans al⟩,fun c=>bb.o k c e,aU F.o.eX.size (cv t.o k e).1⟩))
    have cc:=hide ((bd.o.trans (f4.of am)).new bl (fun k e=>(cv t.o k e).1))
    have cd:=b5.imp id (fun e=>by simpa[Value.ownBlock] using e)
    have ce:aA (∀k,fT ai k->Z k≠Z b4):=fun k hk e=>cd.elim (fun c=>bb.o k hk (e.trans c)) (fun c=>by have:=be.o.fb k hk;simp at e;omega)
    go_wp2_with fail;go_roundw;exact⟨j+1,f++[(u,v)],s2,b1,ai,au b4,bi,aa,aj,d,rfl,ca,cb,cc,ce,a0⟩
    simp[bN];omega
   ·obtain rfl:j=L l:=aa;rw[bk] at S;go_wp2_with fail;go_ret;rw[S.o];exact⟨N,m1,a2,c2,rfl,i,W.o,p.o,ab.o⟩
end
theorem F1:(prog.info? 107).map (fun i=>(i.zero,i.size,i.bytes))=Z (Z (bF #[ak 0,M0 Y 0 0]),2,32):=ah
section
variable {w0 w w':az}{kb cu pw:Nat}{T:List Int}{s:cX}{vn:bD}{m:List d6}
theorem Wk.turned (h:Wk w0 w kb cu pw T s vn m)(f:Fr (fun k=>k=cu) w w'):Kf (I (G w0)) w w'/\w'.heap[kb]?=Z (M5 #[aq pw,.map (Z cu),vn] 129 (0,0))/\aC w' (I (G w0)) 107 2 vn (L m) (nv m)/\(∀x∈m,fS w' x.2.1 x.2.2.2)/\C (I (G w0)) w0 w':=by
 obtain⟨D,o1,_⟩:=h.mp;obtain⟨g,i,hb,_⟩:=o1;have hk:Kf (I (G w0)) w w':=⟨f.os,f.tape,f.output,f.size,fun k hk hl=>f.block k hk (fun e=>by have e:=e;have:=h.lo.2;omega),fun k j e mm hk _ _=>f.block k (lt_of_some hk) (fun c=>by have c:=c;rw[c,hb] at hk;simp at hk)⟩
 refine⟨hk,(f.block kb (lt_of_some h.blk) (fun c=>?_)).trans h.blk,cM h.row (fun k e=>f.block k (cv h.row k e).2 (fun c=>?_)),fun x d=>(h.fl x d).kf hk,h.eX.trans (hk.below h.eX.size)⟩
 ·have c:=c;have:=h.blk;rw[c,hb] at this
  simp at this
 ·obtain⟨l,b⟩:=fF h.row k e;rw[c,hb] at b;simp at b
end
theorem Wk.grown {w0 w p f:az}{d cu pw:Nat}{T:List Int}{ms:List Int}{q:List _}{l i:bD}{m:List d6}{kd:Int}
 (hk:w.heap[d]?=Z (M5 #[aq pw,.map (Z cu),l] 129 (0,0)))(lo:I (G w0)<=d/\I (G w0)<=cu)(hm:Nm w cu T ms)(hr:aC w (I (G w0)) 107 2 l (L m) (nv m))(s:iG m=q)(t:∀x∈m,fS w x.2.1 x.2.2.2)(hb:C (I (G w0)) w0 w)
 (g:C (I (G w)) w p)(h4:aC f (I (G w0)) 107 2 i (L m+1) (nv m++[ak kd,M0 Y 0 0]))(g4:p.grownBy f l.ownBlock):
 Wk w0 (ay f ⟨d,2,Y⟩ i) d cu pw T (ms,q++[(kd,[])]) i (m++[(kd,Y,0,[])])/\f4 w0 w m (ay f ⟨d,2,Y⟩ i) (m++[(kd,Y,0,[])])/\f.heap[d]?=Z (M5 #[aq pw,.map (Z cu),l] 129 (0,0)):=by
 have u:=hm;obtain⟨D,o1,_⟩:=hm;obtain⟨N,S,j,_⟩:=o1;have v:=(Kf.of g).trans (Kf.grown g4 (fun k e=>⟨(cv hr k e.symm).1,fun W ty mm hc=>by obtain⟨cur,ix⟩:=fF hr k e.symm;have:=(g.block k (lt_of_some ix)).trans ix;rw[this] at hc;simp at hc;exact aK hc.2.1.symm⟩))
 have hk4:=(g4.block d (aO (lt_of_some hk) g.size) (fun e=>by obtain⟨cur,ix⟩:=fF hr d e;rw[hk] at ix;simp at ix)).trans ((g.block d (lt_of_some hk)).trans hk)
 have n:Kf (I (G w0)) w (ay f ⟨d,2,Y⟩ i):=v.trans (Kf.set hk4 (aM rfl) lo.1)
 have B:cu≠d:=fun e=>by rw[e,hk] at j;simp at j
 have F:(nv (m++[(kd,Y,0,[])]:List d6))=nv m++[ak kd,M0 Y 0 0]:=by rw[xp];rfl
 refine⟨⟨?_,lo,?_,?_,?_,fun x b=>?_,hb.trans (n.below hb.size)⟩,⟨n,fun k hk=>?_⟩,hk4⟩
 ·simp only [World.setCell,Array.getElem?_modify,if_true,hk4,Option.map_some];rfl
 ·refine u.same ((aX _ _ _ _ B).trans ((g4.block cu (aO (lt_of_some j) g.size) (fun e=>?_)).trans (g.block cu (lt_of_some j))))
  obtain⟨cur,ix⟩:=fF hr cu e;rw[j] at ix;simp at ix
 ·rw[F,a7];exact zl
 ·simp[iG] at s⊢;exact s
 ·rcases bE.1 b with b|b
  ·exact(t x b).kf n
  ·simp at b;subst b;exact fS.nil
 ·obtain⟨x,b,hl,o,e⟩:=hk;rcases bE.1 b with b|b
  ·exact aM ⟨x,b,hl,o,e⟩
  ·simp at b;subst b;simp at hl
theorem Wk.filled {w0 w:az}{j cu pw g cap len:Nat}{T:List Int}{s:cX}{m:List d6}(h:Wk w0 w j cu pw T s (M0 (au g) len cap) m){i:Nat}{k0:Int}{v0:List _}(hi:s.2[i]?=Z (k0,v0)){base c2:Nat}{a2:Option bG}{b:List _}
 (hr:aC w base 97 2 (M0 a2 (L b) c2) (L b) (ev b)):
 Wk w0 (ay w ⟨g,i*2+1,Y⟩ (M0 a2 (L b) c2)) j cu pw T (s.1,s.2.set i (k0,b)) (M0 (au g) len cap) (m.set i (k0,a2,c2,b))/\Kf (I (G w0)) w (ay w ⟨g,i*2+1,Y⟩ (M0 a2 (L b) c2))/\(∀k,fT (m.set i (k0,a2,c2,b)) k->fT m k\/base<=k):=by
 obtain⟨q,f⟩:=fF h.row g rfl;have d:Kf (I (G w0)) w (ay w ⟨g,i*2+1,Y⟩ (M0 a2 (L b) c2)):=Kf.set f (aK rfl) (cv h.row g rfl).1;obtain⟨x,hx,l⟩:∃x:d6,m[i]?=Z x/\(x.1,x.2.2.2)=(k0,v0):=by exact zm
 have n:x.1=k0:=congrArg Prod.fst l;have p:len=L m:=by
  rcases h.row.2 with⟨hv,_⟩|⟨t,u,v,hv,_⟩
  ·simp at hv
  ·simp at hv;exact hv.2.1
 refine⟨⟨(aX _ _ _ _ (fun c=>?_)).trans h.blk,h.lo,h.mp.same (aX _ _ _ _ (fun c=>?_)),?_,?_,fun y hy=>?_,h.eX.trans (d.below h.eX.size)⟩,d,fun k hk=>?_⟩
 ·have c:=c;have:=h.blk;rw[c,f] at this
  simp at this
 ·obtain⟨D,⟨B,F,hb,_⟩,_⟩:=h.mp;rw[c,f] at hb;simp at hb
 ·rw[bh,<-n,ts m i x a2 c2 b hx];have:=h.row;rw[<-p] at this⊢
  exact nn this _ _
 ·rw[iG,List.map_set];show((iG m).set i (k0,b))=_;rw[h.nd]
 ·rcases ko hy with hy|hy
  ·exact(h.fl y hy).kf d
  ·subst hy;exact(fS.of hr).kf d
 ·obtain⟨y,hy,hl,o,e⟩:=hk;exact zk
section
variable {w0:az}{kb cu pw p q N O y g:Nat}{ws:List Int}{sd:Nat}{v0:bD}{a1:Option bG}{k1:Nat}{Q:List cf}{T:List Int}
theorem F4 (hq:nF w0 pw p q N O y g ws sd v0 a1 k1 Q)(a3:∀a∈T,0<=a/\a<2000)(cJ:T.length<=100000)(n:Nat)(M:cX->Int->cX)(hM:oI w0 kb cu pw T M n)(al:lO T (fun a=>pk (ld N y g ws a)) (ft N y g ws Q) n M):
 oI w0 kb cu pw T (fun s a=>((dG M T (s.1++[a],s.2++[(pk (ld N y g ws a),[])]) (ft N y g ws Q a)).2.1,(dG M T (s.1++[a],s.2++[(pk (ld N y g ws a),[])]) (ft N y g ws Q a)).2.2.set s.1.length (pk (ld N y g ws a),(dG M T (s.1++[a],s.2++[(pk (ld N y g ws a),[])]) (ft N y g ws Q a)).1))) (n+1):=by
 intro w s cK m a h ho ha hn hl;obtain⟨ch,hi,ci,cj,ck⟩:=bV F1;have cL:=ho.lt ha hn;have cl:=a3 a ha;have cm:m.length=s.1.length:=by rw[h.len,ho.len]
 have am:=ho.more ha hn (pk (ld N y g ws a),[])
 have an:=og M T (s.1++[a],s.2++[(pk (ld N y g ws a),[])]) (ft N y g ws Q a)
 have G:=qy al am (by simp;omega) (ft N y g ws Q a)
 have cn:=E9 N y g ws Q a;have co:=hq.hm;have a4:(dG M T (s.1++[a],s.2++[(pk (ld N y g ws a),[])]) (ft N y g ws Q a)).2.2[s.1.length]?=Z (pk (ld N y g ws a),[]):=by rw[G.old s.1.length ac,List.getElem?_append_right (by rw[ho.len];exact aG _),ho.len];simp
 have cN:s.1.length<(dG M T (s.1++[a],s.2++[(pk (ld N y g ws a),[])]) (ft N y g ws Q a)).2.1.length:=by
  have:=G.le;simp at this
  omega
 have cp:=G.ok.len;have ba:aA (∀(o:az)(bb:bD)(bd:List d6)(ad:Option bG)(cap:Nat),Wk w0 o kb cu pw T (s.1++[a],s.2++[(pk (ld N y g ws a),[])]) bb bd->Lq o ad (ft N y g ws Q a)->
  _):=
  fun o bb bd ad cap cq cr=>zp hM al cq am (by simp;omega) _ ad cap cr aa
 have be:aA (∀w1,C w0.heap.size w0 w1->_):=fun w1 hb=>gO a w1 (hq.low hb).ar;have bg:aA (∀w1,C w0.heap.size w0 w1->V w1 (av kb 0)=Z (aq pw)->_):=
  fun w1 hb hc=>E_ (hq.low hb) kb hc a cl.1 aa
 have cO:=aT w0 _ hq.c0;have cs:aA (∀w1,C w0.heap.size w0 w1->_=_):=fun w1 hb=>(hq.low hb).c0;have bi:=jL (a:=a) aa aa;have bl:=nG (s.1.length:Int) (WalkArith.wf_i64 ⟨aa,aa⟩)
 clear hM al G am cn co hq a3;dsimp only;generalize ct:dG M T (s.1++[a],s.2++[(pk (ld N y g ws a),[])]) (ft N y g ws Q a)=R at*;clear ct;generalize ft N y g ws Q a=cP at*;obtain⟨cQ,cR⟩:=R;dsimp only at*;generalize pk (ld N y g ws a)=kd at*;generalize pf (ld N y g ws a)=f at*;generalize pc (ld N y g ws a)=cc at*;have H:aA (_):=h;obtain⟨ao,dO,cw⟩:=eZ h.row;subst cw;obtain⟨c0,c1,c2,lk⟩:=h.cells;obtain⟨D,o1,bn,bo⟩:=h.mp;have hlo:=h.lo;have bp:aA (∀(w1:az)(k:Nat),w1.ownsMap Ng 3 (plainElem Ng 3) cu k (D.put (.int M4 a) (.lit (.int M4 (s.1.length:Int))))->Nm w1 cu T (s.1++[a])):=fun w1 k cx=>Nm.put o1 bn bo ha hn cx;have br:aA (iG m=s.2):=h.nd;clear h bn bo ho ha hn;generalize s.1.length=L at*;subst cm;go_enter func231,ntmps231;go_wp2_with (at_mapUpdate;refine wpList_mapUpdate_own _ rfl _ _ _ 127 rfl 3 3 jg underlying127 (plainElem (H:=Unit) Ng 3) cu T.length D rfl o1 (by unfold bW;omega) _ _ _ rfl rfl bi _ [] bl ?_;intro w1 bs bt;(have bx:Fr (fun k=>k=cu) w w1:=(Fr.refl _ _).grown bt (fun k e=>aM (by cases e;rfl)));(have b:aA (_/\_/\_/\_/\_):=H.o.turned bx);(have ap:aA (Nm w1 cu T (s.1++[a])):=bp.o w1 _ bs);(have cy:V w1 (av kb 0)=Z (aq pw):=by simp[World.cell?,b.o.2.1]);(have y1:=cs.o w1 b.o.2.2.2.2);clear bs bt bx c0 c1 c2 o1 bp)
 refine(be.o w1 b.o.2.2.2.2).mono ?_;clear be;rintro e S ⟨rfl,d⟩
 have ar:=(d.block kb (lt_of_some b.o.2.1)).trans b.o.2.1;have b0:V S (av kb 2)=Z (M0 ao m.length dO):=aD ar
 have b1:=hide ar;have b2:=hide (ap.o.same (by obtain⟨cS,o',_⟩:=ap.o;exact d.block cu o'.lt))
 have aB:=cM b.o.2.2.1 (fun k hk=>d.block k (cv b.o.2.2.1 k hk).2)
 have b3:=hide aB;have b5:aA (_):=fun x cz=>(b.o.2.2.2.1 x cz).kf (Kf.of (B:=0) d)
 have B2:=hide (b.o.2.2.2.2.trans (d.mono b.o.2.2.2.2.size))
 have b6:=hide ((show f4 w0 w m w1 m from⟨b.o.1,fun k h=>aM h⟩).trans (f4.of d))
 have cT:=B2.o.size;clear b ap ar cy y1 d lk;go_wp2_with (at_builtin;refine bX _ rfl _ _ 58 rfl w0.heap.size 107 ch (.agg #[ak 0,M0 Y 0 0]) 2 32 underlying58 hi ci cj ck rfl ae (M0 ao m.length dO) m.length (nv m) rfl (fC aB _) ⟨S.heap.size,0,Y⟩ 1 1 [ak kd,M0 Y 0 0] rfl rfl ?_ ?_ ?_ ?_ ?_ ?_;(intro j u i;match j,i with|0,i=>(simp at i;subst i;simp[Addr.add])|1,i=>(simp at i;subst i;simp[Addr.add]));(intro u t;simp at t;rcases t with t|t<;>(subst t;rfl));(unfold bW;omega);omega;(simp;omega);intro cU aF aR ca _ cA;obtain⟨b4,cB,cC⟩:=eW aR (j3 _);subst cC;(have W:=hide (Wk.grown b1.o hlo b2.o b3.o br.o b5.o B2.o (aw S _) aR ca));(have u0:V aF (av kb 2)=Z (M0 ao m.length dO):=by simp[World.cell?,W.o.2.2]);(have cD:bO aF (av kb 2)=Nb:=by simp[World.frozen?,W.o.2.2]);clear aR ca cA b0 aB b1 b2 b3 br b5 B2)
 obtain⟨cb,cd,_⟩:=W.o;have ab:=hide (b6.o.trans cd)
 have v:=hide cb;clear W cb cd u0 cD b6;generalize aF.setCell ⟨kb,2,Y⟩ (M0 (Z ⟨b4,0,Y⟩) (m.length+1) cB)=o at ab v⊢;refine(bg.o o v.o.eX v.o.cells.1).mono ?_;clear bg;rintro e cE ⟨ad,cap,rfl,ce,ag⟩
 go_wp2_with fail;refine(ba.o cE _ _ ad cap (v.o.below ag) (Lq.of ce)).mono ?_;clear ba;rintro e cV ⟨cW,F,a2,cY,rfl,aV,l,cf,cF⟩
 have cZ:=l.len.trans cp;obtain⟨c3,c4,cG⟩:=eW l.row aa;subst cG;have b0:=l.cells.2.2.1;have cH:m.length<F.length:=aa;obtain⟨a0,c5⟩:=iW l.row ((py F m.length _ (aN cH)).2)
 rw[<-an] at aV;have ai:=hide (l.filled a4 aV)
 have cg:=hide ((ab.o.trans (f4.of ag)).trans cf)
 have cI:=((ab.o.trans (f4.of ag)).1).size;generalize (F[m.length]).2.1=q1 at a0;generalize (F[m.length]).2.2.2.length=c6 at a0;generalize (F[m.length]).2.2.1=q3 at a0;rw[an] at ai;clear ce ag aV l cf cF ab v a4 an bl bi;go_wp2_with fail;go_ret;exact⟨_,_,rfl,ai.o.1,cg.o.1.trans ai.o.2.1,fun k hk=>(ai.o.2.2 k hk).elim (cg.o.2 k) (fun c=>aK (aU cI c))⟩
theorem zq (hq:nF w0 pw p q N O y g ws sd v0 a1 k1 Q)(b:∀a∈T,0<=a/\a<2000)(c:L T<=100000):∀n,oI w0 kb cu pw T (met T (fun a=>pk (ld N y g ws a)) (ft N y g ws Q) n) n
 |0=>fun w s d m a _ ho ha hn hl=>by have:=ho.lt ha hn;omega
 |n+1=>F4 hq b c n _ (zq hq b c n) (ka n)
end
section
variable {N y g:Nat}{ws:List Int}{Q:List cf}{l:List Int}
def i2 (N y g:Nat)(ws:List Int)(Q:List cf)(l:List Int):List (Int×Int)×cX:=
 dG (met (eN N y g ws++dM N y g ws) (fun a=>pk (ld N y g ws a)) (ft N y g ws Q) (L (eN N y g ws++dM N y g ws))) (eN N y g ws++dM N y g ws) ([],[]) l
end
open Go.RowKit W
theorem F5 {P:Program}{o:Oper}{a:Act}{w:az}{K:Act->az->Prop}{Q:Exit->Act->az->Prop}(n:o.guard=none)(e s:Operand)(f p i:TypeId)
 (ho:o.op=.call {callee:=.builtin .copy,args:=#[e,s],argTypes:=#[f,p]})(x:P.underlying f=some (.slice i))(B:(P.info? i).map (·.size)=some 1)
 (k sp:Option Addr)(l q m u:Nat)(hd:a.eval e=.slice k l q)(hs:a.eval s=.slice sp m u)
 (g c:Nat)(d:List Value)(t:TypeId)(hg:w.heap[g]?=some (.cells d.toArray t (0,0)))(b:List Value)(hn:b.length=Nat.min m l)
 (F:0<b.length->k=some ⟨g,c,none⟩/\∃ad,sp=some ad/\∀j v,b[j]?=some v->w.cell? (ad.add j)=some v)
 (N:c+b.length<=d.length)(S:∀v∈b,v.oneCell'=true)
 (h:∀w',lX w w' g d c b->K (a.put o.dst (goInt b.length)) w'):Oper.wp P o a w K Q:=by
 have:=qM (ops:=#[]) (o:=o) (K:=K) (Q:=Q) (E:=False) n e s f p i ho x B k sp l q m u hd hs g c d t hg b hn F N S h;rwa [aJ (show Region.wanted o (yielded #[] a.tmps)=true by simp[Region.wanted,n])] at this
theorem ui {P:Program}{ops:Array Oper}{n:List Oper}{o:Oper}{a:Act}{w:az}{Q:Exit->Act->az->Prop}(p:o.guard=none)(e s:Operand)(f q i:TypeId)
 (ho:o.op=.call {callee:=.builtin .copy,args:=#[e,s],argTypes:=#[f,q]})(B:P.underlying f=some (.slice i))(F:(P.info? i).map (·.size)=some 1)
 (k sp:Option Addr)(l u m x:Nat)(hd:a.eval e=.slice k l u)(hs:a.eval s=.slice sp m x)
 (g c:Nat)(d:List Value)(t:TypeId)(hg:w.heap[g]?=some (.cells d.toArray t (0,0)))(b:List Value)(hn:b.length=Nat.min m l)
 (N:0<b.length->k=some ⟨g,c,none⟩/\∃ad,sp=some ad/\∀j v,b[j]?=some v->w.cell? (ad.add j)=some v)
 (S:c+b.length<=d.length)(W:∀v∈b,v.oneCell'=true)
 (h:∀w',lX w w' g d c b->wpList P ops Q n (a.put o.dst (goInt b.length)) w'):wpList P ops Q (o::n) a w:=
 wpList_plain p fun _ ab=>F5 p e s f q i ho B F k sp l u m x hd hs g c d t hg b hn N S W (fun w' hw=>ab _ _ (h w' hw))
theorem F6 (w:az):J Ng 223 #[U sQ 1,U sQ 12] w fun e w'=>e=M6 (a8 #[U sQ 0,U sQ 12])/\w'=w:=by go_wp2;go_ret2;exact⟨rfl,rfl⟩
theorem F7 (w:az):J Ng 167 #[U sQ 1,U sQ 12] w fun e w'=>e=M6 (a8 #[U sQ 0,U sQ 12])/\w'=w:=by
 go_enter func167,ntmps167;go_wp2_with fail;refine(F6 w).mono ?_;rintro e w1 ⟨rfl,hw⟩
 have hw:=hw.symm;subst hw;go_wp2;go_ret2;exact⟨rfl,rfl⟩
def tw (v:Int)(n:Nat):List Int:=A n v++A (12-n) 0
theorem uj (v:Int)(n:Nat)(h:n<=12):L (tw v n)=12:=by simp[tw];omega
theorem F8 (v:Int)(n m:Nat)(h:n+m<=12):splice (tw v n) n (A m v)=tw v (n+m):=by unfold splice tw;rw[List.take_left' ac,hV,List.drop_append,hV];simp only [List.drop_replicate];rw[show n-(n+m)=0 by omega,show 12-n-(n+m-n)=12-(n+m) by omega];simp;rw[<-bw,List.replicate_append_replicate]
theorem F9 (v:Int)(n i:Nat)(h:i<n):X (tw v n) i 0=v:=by unfold tw;rw[aL,List.getElem?_append_left (by simpa using h)];simp[h]
theorem one_cell {w:az}{b:Nat}{v:Int}(hc:V w (av b 0)=Z (ak v)):∀j u,((A 1 v).map (Value.int M4))[j]?=Z u->V w ((⟨b,0,Y⟩:bG).add j)=Z u:=by
 intro j u hj;have c:j=0:=by exact ri
 subst c;rw[<-hj];simpa[Addr.add] using hc
theorem F_ {w:az}{nb n:Nat}{v:Int}(hr:w.heap[nb]?=Z (M5 ((tw v n).map (Value.int M4)).toArray 2 (0,0)))(hn:n<=12)(m:Nat)(hm:m<=n):∀j u,((A m v).map (Value.int M4))[j]?=Z u->V w ((⟨nb,0,Y⟩:bG).add j)=Z u:=by
 intro j u hj;have b:j<m:=by exact ri
 have c:u=ak v:=by simp[b] at hj;exact hj.symm
 have hl:=uj v n hn;have hg:=F9 v n j aa;rw[aL,aN (by omega:j<L (tw v n))] at hg;have ea:(⟨nb,0,Y⟩:bG).add j=⟨nb,j,Y⟩:=by simp[Addr.add];intro h;exact h.symm
 rw[ea,c];have d:j<L (tw v n):=aa;simp[World.cell?,hr,List.getElem?_eq_getElem d];exact hg
theorem zr {w w':az}{nb n m B:Nat}{v:Int}(b:lX w w' nb ((tw v n).map (Value.int M4)) n ((A m v).map (Value.int M4)))(hr:w.heap[nb]?=Z (M5 ((tw v n).map (Value.int M4)).toArray 2 (0,0)))(hm:0<m)(h:n+m<=12)(hB:B<=nb):w'.heap[nb]?=Z (M5 ((tw v (n+m)).map (Value.int M4)).toArray 2 (0,0))/\C B w w':=by
 rcases b with⟨h0,_⟩|rfl
 ·have:=congrArg L h0;simp at this
  omega
 ·rw[tL,F8 v n m h];exact⟨setRow_heap w nb _ _ _ _ hr,⟨rfl,rfl,rfl,by simp[World.setRow],fun k hk=>setRow_other w nb k _ aa⟩⟩
theorem Ga (w:az)(b:Nat)(v:Int)(hc:V w (av b 0)=Z (ak v)):
 J Ng 88 #[M0 (au b) 1 1,ak 12] w fun e w'=>∃nb,e=M6 (M0 (au nb) 12 12)/\I (G w)<=nb/\w'.heap[nb]?=Z (M5 ((tw v 12).map (Value.int M4)).toArray 2 (0,0))/\C (I (G w)) w w':=by
 obtain⟨l,hi,F,N,S⟩:=bV xF;have lb:=aT w _ hc;go_enter func88,ntmps88;go_wp2_with fail;refine(F7 w).mono ?_;rintro e w0 ⟨rfl,hw⟩
 have hw:=hw.symm;subst hw
 go_upto_region 7 with(at_make;refine wpList_make_full _ rfl _ _ 53 rfl (I (G w)) 2 l (ak 0) 1 underlying53 hi F N M4 M4 _ _ 12 rfl rfl aa aa (by rw[S];omega) (by unfold bW;omega) b8 ?_;intro w1 W ab)
 have hr:w1.heap[I (G w)]?=Z (M5 ((tw v 0).map (Value.int M4)).toArray 2 (0,0)):=by simpa[tw] using(xG W)
 have f:=(aH _ w).grown ab b8 (fun _ h=>by cases h)
 have o:=hide (one_cell ((f.cell (p:=av b 0) lb).trans hc))
 have g:=hide hr;have c:aA (L ((A 1 v).map (Value.int M4))=pq 1 12):=rfl;have d:aA (0+L ((A 1 v).map (Value.int M4))<=L ((tw v 0).map (Value.int M4))):=by show _<=_;rw[aZ,aZ,uj v 0 aa];simp
 go_wp2_with (refine ui rfl _ _ 53 53 2 rfl underlying53 tK (au (I (G w))) (au b) 12 12 1 1 rfl rfl (I (G w)) 0 ((tw v 0).map (Value.int M4)) 2 g.o ((A 1 v).map (Value.int M4)) c.o (fun _=>⟨rfl,_,rfl,o.o⟩) d.o (pE _) ?_;intro ap q)
 obtain⟨s,t⟩:=zr (B:=I (G w)) q g.o aa aa b8
 have u:=f.trans t;clear q o g c d f t
 go_loopw [8] (fun nv wr=>∃n:Nat,1<=n/\n<=12/\nv=ak n/\aA (wr.heap[I (G w)]?=Z (M5 ((tw v n).map (Value.int M4)).toArray 2 (0,0)))/\C (I (G w)) w wr) (fun nv _=>12-Na (bN nv))
 exact⟨1,aG _,aa,rfl,s,u⟩
 ·
   clear s u;obtain⟨n,n1,x,rfl,i,hb⟩:=hrel;by_cases ar:n<12
   ·obtain⟨m,hm,ad,j,ag⟩:∃m,m=pq n (12-n)/\0<m/\n+m<=12/\m<=n:=⟨_,rfl,by simp only [tV];split<;>omega,by simp only [tV];split<;>omega,by simp only [tV];split<;>omega⟩
    have k:=hide i.o;have c:aA (L ((A m v).map (Value.int M4))=pq n (12-n)):=by show _=_;rw[<-hm];simp
    have d:aA (n+L ((A m v).map (Value.int M4))<=L ((tw v n).map (Value.int M4))):=by show _<=_;rw[aZ,aZ,uj v n x];simpa using j
    have aB:¬12=n:=aa;have l:(0:Int)<=(n:Int):=aa;have aF:(n:Int)<=12:=aa;have aR:(n:Int)<12:=aa;clear i;go_wp2_with fail
    go_region_law (refine qM rfl (.tmp 41) (.tmp 44) 53 53 2 rfl underlying53 tK (Z ⟨I (G w),n,Y⟩) (au (I (G w))) (12-n) (12-n) n 12 ?_ ?_ (I (G w)) n ((tw v n).map (Value.int M4)) 2 k.o ((A m v).map (Value.int M4)) c.o (fun _=>⟨rfl,_,rfl,(hide (F_ k.o x m ag)).o⟩) d.o (pE _) ?_;(simp[Act.eval,Act.put]);(simp[Act.eval,Act.put]);intro aV ai)
    obtain⟨al,am⟩:=zr (B:=I (G w)) ai k.o ad j b8
    have an:=hide al;have ao:=hb.drew.trans am;have hw:IntKind.i64.wrap ((n:Int)+(m:Int))=((n+m:Nat):Int):=by rw[bA];omega
    simp[Act.put,go_sem,Exit.inBlock];rw[<-hm,hw];refine⟨⟨_,_,_,_,_,_,_,_,_,_,_,_,_,_,?rel,rfl⟩,?measure⟩
    exact⟨n+m,aa,j,rfl,an,ao⟩
    simp[bN];omega
   ·obtain rfl:n=12:=aa;go_wp2_with fail;go_ret;exact⟨I (G w),rfl,aG _,i.o,hb⟩
theorem zs (n o:Nat)(w:az)(h0:16<=n)(bt:n<=256)(bx:o<=1024):
 J Ng 38 #[ak n,ak o] w fun e w'=>∃pw p q pc cU s nb,e=M6 (a8 #[aq pw,bF #[ak 0,ak 0]])/\iI w' pw p q pc cU n o 0 0 (A (n+o) 0) (dO o) [] (aq s) (M0 (au nb) 12 12)/\w'.heap[s]?=Z (M5 #[M0 Y 0 0,M0 Y 0 0] 153 (0,0))/\w'.heap[nb]?=Z (M5 ((tw 2 12).map (Value.int M4)).toArray 2 (0,0))/\
  (I (G w)<=pw/\I (G w)<=p/\I (G w)<=q/\I (G w)<=pc/\I (G w)<=cU/\I (G w)<=s/\I (G w)<=nb)/\C (I (G w)) w w':=by
 have P:=D0 n o (w.alloc (M5 #[U M4 0,U M4 0] 28)) aa aa aa aa;simp only [Int.toNat_natCast] at P;go_enter func38,ntmps38;go_wp2_with fail;refine P.mono ?_;clear P;rintro e w1 ⟨p,q,rfl,S,hp,hq,m⟩
 have W:=(m.block (I (G w)) ac).trans (aP w (M5 #[U M4 0,U M4 0] 28))
 have aR:=(aw w (M5 #[U M4 0,U M4 0] 28)).trans (m.mono ac)
 simp at hp hq;have aV:=m.size;simp at aV;have u:=S.alloc (M5 #[U M4 0,U M4 0] 28)
 have B:=aw w1 (M5 #[U M4 0,U M4 0] 28)
 clear m;go_wp2_with fail;refine(ny _ u).mono ?_;rintro e a0 ⟨rfl,j⟩
 have ab:=u.below j b8
 have a1:=(aR.trans (B.mono aa)).trans (j.mono (by simp;omega))
 have a2:=j.size;simp at a2;have ad:=((j.block (I (G w)) (by simp;omega)).trans (B.block (I (G w)) aa)).trans W;clear S u j B W;go_wp2_with fail;refine(ED n o a0 aa).mono ?_;rintro e d ⟨pc,cU,rfl,ag,b0,b1,l⟩
 have ai:=ab.below l b8
 have a3:=a1.trans (l.mono aa)
 have b2:=l.size;have al:=(l.block (I (G w)) aa).trans ad;clear ab l ad;go_wp2_with fail;have i:=aw d (M5 #[M0 Y 0 0,M0 Y 0 0] 153)
 have F:=aP d (M5 #[M0 Y 0 0,M0 Y 0 0] 153)
 refine(sV _).mono ?_;rintro e N ⟨rfl,hw⟩
 have a4:I (G N)=I (G d)+1:=by rw[hw];simp
 rw[<-hw] at i F;clear hw;have am:=ai.below i b8
 have an:=ag.below i b8
 have ba:=a3.trans (i.mono aa)
 have ao:=(i.block (I (G w)) aa).trans al;clear ai ag al i;go_wp2_with fail;have ap:=aw N (M5 #[U M4 2] 2)
 refine(Ga _ (I (G d)+1) 2 (by rw[<-a4];simp)).mono ?_;rintro e c ⟨nb,rfl,ar,hrow,aB⟩
 have f:=ap.trans (aB.mono ac)
 have bb:=am.below f b8
 have bd:=an.below f b8
 have be:=ba.trans (f.mono aa)
 have t:=(f.block (I (G w)) aa).trans ao;have bg:=(f.block (I (G d)) aa).trans F;have b3:=f.size;have b4:I (G w)<nb:=by simp at ar;omega
 have b5:=lt_of_some hrow;have y0:V c (av (I (G w)) 0)=Z (ak 0):=aD t
 have y1:V c (av (I (G w)) 1)=Z (ak 0):=aD t
 have bi:bO c (av (I (G w)) 0)=Nb:=aE t
 have bl:bO c (av (I (G w)) 1)=Nb:=aE t
 have bn:I (G w)<I (G c):=aa;clear am an ao F aB f ap ar;go_wp2_with fail;obtain⟨b,hW0⟩:∃b,b=ay (ay c ⟨I (G w),0,Y⟩ (U M4 0)) ⟨I (G w),1,Y⟩ (U M4 0):=⟨_,rfl⟩
 rw[<-hW0];have bo:I (G b)=I (G c):=by rw[hW0];simp[World.setCell]
 have k0:∀k,k≠I (G w)->b.heap[k]?=c.heap[k]?:=fun k hk=>by rw[hW0];exact(aX _ _ _ _ hk).trans (aX _ _ _ _ hk)
 have g0:V b (av (I (G w)) 0)=Z (ak 0):=by exact l5
 have g1:V b (av (I (G w)) 1)=Z (ak 0):=by rw[hW0];exact bc _ _ _ ((aY c ⟨I (G w),0,Y⟩ ⟨I (G w),1,Y⟩ _ ac).trans y1)
 have bp:C (I (G w)) w b:=by rw[hW0];exact be.trans ((((Fr.refl (fun k=>k=I (G w)) c).set (I (G w)) 0 _ rfl).set (I (G w)) 1 _ rfl).below (wI bn) (fun x e=>by have e:x=I (G w):=e;omega))
 have aF:=aP b (M5 #[bJ (Z ⟨p,0,Y⟩),bJ (Z ⟨pc,0,Y⟩),bJ (Z ⟨I (G d),0,Y⟩),M0 (Z ⟨nb,0,Y⟩) 12 12] 55)
 rw[bo] at aF;have g:=aw b (M5 #[bJ (Z ⟨p,0,Y⟩),bJ (Z ⟨pc,0,Y⟩),bJ (Z ⟨I (G d),0,Y⟩),M0 (Z ⟨nb,0,Y⟩) 12 12] 55)
 have br:=(bd.same (w':=b) (k0 pc aa) (k0 cU aa)).below g b8
 have bs:=((g.block (I (G d)) aa).trans (k0 _ aa)).trans bg;clear y0 y1 bi bl hW0;generalize b.alloc (M5 #[bJ (Z ⟨p,0,Y⟩),bJ (Z ⟨pc,0,Y⟩),bJ (Z ⟨I (G d),0,Y⟩),M0 (Z ⟨nb,0,Y⟩) 12 12] 55)=b6 at*;refine a6 (v:=a8 #[aq (I (G c)),bF #[ak 0,ak 0]]) (by simp[results,results38,go_sem,((g.cell (p:=av (I (G w)) 0) (by show I (G w)<_;omega)).trans g0),((g.cell (p:=av (I (G w)) 1) (by show I (G w)<_;omega)).trans g1)]) rfl ⟨I (G c),p,q,pc,cU,I (G d),nb,rfl,⟨aF,((bb.same (w':=b) (k0 p aa) (k0 q aa)).below g b8),br⟩,bs,(((g.block nb aa).trans (k0 _ aa)).trans hrow),⟨aa,aa,aa,aa,aa,aa,aa⟩,(bp.trans (g.mono aa))⟩
theorem Gb (n o:Int)(w:az)(h:n<16\/256<n\/o<0\/1024<o):
 J Ng 38 #[ak n,ak o] w fun e w'=>e=M6 (a8 #[bJ Y,bF #[ak 1,ak (-1)]])/\C (I (G w)) w w':=by
 have g:=aw w (M5 #[U M4 0,U M4 0] 28)
 have i:=aP w (M5 #[U M4 0,U M4 0] 28)
 have P:=D1 n o (w.alloc (M5 #[U M4 0,U M4 0] 28)) h;go_enter func38,ntmps38;go_wp2_with fail;refine P.mono ?_;rintro e w1 ⟨rfl,d⟩
 have c:=(d.block (I (G w)) ac).trans i;have hB1:=g.trans (d.mono ac)
 have j:=d.size;simp at j;have y0:V w1 (av (I (G w)) 0)=Z (ak 0):=aD c
 have y1:V w1 (av (I (G w)) 1)=Z (ak 0):=aD c
 have q:bO w1 (av (I (G w)) 0)=Nb:=aE c
 have s:bO w1 (av (I (G w)) 1)=Nb:=aE c
 have l1:I (G w)<I (G w1):=aa;clear d i g c;go_wp2_with fail
 go_region_law (fail)
 all_goals
  obtain⟨b,hW0⟩:∃b,b=ay (ay w1 ⟨I (G w),0,Y⟩ (U M4 1)) ⟨I (G w),1,Y⟩ (U M4 (-1)):=⟨_,rfl⟩
  rw[<-hW0];have t:I (G b)=I (G w1):=by rw[hW0];simp[World.setCell]
  have g0:V b (av (I (G w)) 0)=Z (ak 1):=by exact l5
  have g1:V b (av (I (G w)) 1)=Z (ak (-1)):=by exact qX
  have l:C (I (G w)) w b:=by exact uh
  have f:=(aw b (M5 #[U M4 1,U M4 (-1)] 28)).drew;have r0:=(f.cell (p:=av (I (G w)) 0) (by show I (G w)<_;omega)).trans g0;have r1:=(f.cell (p:=av (I (G w)) 1) (by show I (G w)<_;omega)).trans g1;have m:=l.trans (f.mono aa)
  generalize (b.alloc (M5 #[U M4 1,U M4 (-1)] 28)).drew=u at*;go_wp2_with fail;refine a6 (v:=a8 #[bJ Y,bF #[U M4 1,U M4 (-1)]]) (by simp[results,results38,go_sem,r0,r1]) rfl ⟨rfl,m⟩
structure Wf (w:az)(pw p q pc cU sd nb N O y g:Nat)(ws:List Int)(c:Int)(M rs:List Int):Prop where
 iK:iI w pw p q pc cU N O y g ws c M (aq sd) (M0 (au nb) 12 12)
 Ge:w.heap[sd]?=Z (M5 #[M0 Y 0 0,M0 Y 0 0] 153 (0,0))
 rts:w.heap[nb]?=Z (M5 (rs.map (Value.int M4)).toArray 2 (0,0))
 rl:L rs=12
 nq:nb≠q
section
variable {w:az}{pw p q pc cU sd nb N O y g:Nat}{ws:List Int}{c:Int}{M rs:List Int}
theorem Wf.apart (h:Wf w pw p q pc cU sd nb N O y g ws c M rs):(sd≠p/\sd≠q/\sd≠pc/\sd≠cU)/\(nb≠p/\nb≠q/\nb≠pc/\nb≠cU)/\nb≠pw/\nb≠sd:=by
 obtain⟨D,⟨j,k,hb,_⟩,_⟩:=h.iK.cd.hq;have f:=h.iK.ar.hp;have i:=h.iK.cd.hp;have d:=h.Ge;have b:=h.rts;refine⟨⟨fun e=>?_,fun e=>?_,fun e=>?_,fun e=>?_⟩,⟨fun e=>?_,h.nq,fun e=>?_,fun e=>?_⟩,fun e=>?_,fun e=>?_⟩
 ·rw[e,f] at d;simp at d
 ·rw[e,h.iK.ar.hq] at d;simp at d
 ·rw[e,i] at d;simp at d
 ·rw[e,hb] at d;simp at d
 ·rw[e,f] at b;simp at b
 ·rw[e,i] at b;simp at b
 ·rw[e,hb] at b;simp at b
 ·rw[e,h.iK.blk] at b;simp at b
 ·rw[e,d] at b;simp at b
end
def uk:List Int:=fZ (A 24 0) 0 (hw 1 2) 2
def rx:List Int:=gP 16 3 0 uk (ew 3 0) 1 20
def zt:List Int:=(tw 2 12).set 0 (ew 3 0)
theorem b1:eO 16 3 0 uk (ew 3 0) 1=0:=by decide+kernel
theorem b2:stM 16 3 0 uk (ew 3 0) 1 20 (dO 8) []=[]:=by decide+kernel
theorem b3:eO 16 3 0 rx (ew 3 0) 1=0:=by decide+kernel
theorem b4:ld 16 3 0 rx (cr (ew 3 0)+1+1)=20:=by decide+kernel
theorem b5:(i2 16 3 0 rx [] zt).1=[(3,0),(0,0),(0,0),(0,0),(0,0),(0,0),(0,0),(0,0),(0,0),(0,0),(0,0),(0,0)]:=by decide+kernel
theorem b6:(i2 16 3 0 rx [] zt).2.2=[(1,[(0,0),(1,5)])]:=by decide+kernel
theorem Gf {w w':az}{pw p q pc cU s nb n o:Nat}(b:iI w' pw p q pc cU n o 0 0 (A (n+o) 0) (dO o) [] (aq s) (M0 (au nb) 12 12))(hs:w'.heap[s]?=Z (M5 #[M0 Y 0 0,M0 Y 0 0] 153 (0,0)))(hr:w'.heap[nb]?=Z (M5 ((tw 2 12).map (Value.int M4)).toArray 2 (0,0)))(_:C (I (G w)) w w')(h0:16<=n):
 Wf w' pw p q pc cU s nb n o 0 0 (A (n+o) 0) (dO o) [] (tw 2 12):=by
 refine⟨b,hs,hr,ae,fun e=>?_⟩
 have:=b.ar.hq;rw[<-e,hr] at this
 simp only [Option.some.injEq,Obj.cells.injEq,and_true] at this
 have c:=congrArg (fun a:Array bD=>a[0]?) this
 rw[show n+o=(n+o-1)+1 by omega] at c;simp[tw,List.replicate_succ] at c
end Go.Proofs.YtpkjkjhanlbcoaaGreat
