import Derived.Test.YtpkjkjhanlbcoaaGreatJ02
import Derived.Deep.RegionLaw
import Derived.Lib.AppendZeros
import Derived.Deep.DeepCutAuto
import Derived.Deep.Slices
import Derived.Lib.SmallJoins
import Derived.OpenShut
import Derived.Laws.OwnMore
open Array renaming getElem?_modify->bL,size->I
open Bool renaming false->Nb,false_eq_true->Fv,true->Nc
open Go renaming Addr->bG,Calls->J,TypeId->bU,Value->bD,below_drewN->sS,info_parts->bV,maxLen->bW,splice->nS,wpList_append_own->vH
open Go.Ending renaming returned->M6
open Go.IntKind renaming i64->M4
open Go.Obj renaming cells->R
open Go.Proofs.Tryz renaming prog->Ng
open Go.RowKit renaming Below->C,intOf->bN
open Go.Value renaming agg->bF,bool->bK,int->U,ownBlock->Nh,slice->H,tuple->a8
open Go.World renaming alloc->bj,cell?->V,frozen?->bO,heap->G,ownsRow->aC
open Int renaming eq_ofNat_of_zero_le->bH,min_eq_left->Lp,min_eq_right->MW,toNat->M,toNat_natCast->bI
open List renaming append_nil->ji,contains->bR,contains_iff_mem->bP,eq_nil_of_length_eq_zero->gT,getD->X,getElem?_map->kg,length->L
open Nat renaming eq_zero_or_pos->Ck,min->pq,succ_pos->j3
open Option renaming map_some->bS,none->Y,some->Z
namespace Go.Proofs.YtpkjkjhanlbcoaaGreat
set_option maxRecDepth 100000
set_option maxHeartbeats 2000000
open Tryz
open Go.RowKit W
theorem xH {P:Prop}(h:P:=by
 go_enter func171,ntmps171;go_wp2_with fail;refine(lq w HA.o).mono ?_;rintro e w1 ⟨rfl,hb1⟩
 have y1:=(hb1.cell (p:=av pw 0) iX).trans hc;go_wp2_with fail;refine(ny w1 (HA.o.below hb1 b8)).mono ?_;rintro e w2 ⟨rfl,hb2⟩
 have eJ:=hb1.trans (hb2.mono hb1.size)
 have y2:=(eJ.cell (p:=av pw 0) iX).trans hc;have P:=nu a w2 (HA.o.below eJ b8)
 rw[ho] at P;go_wp2_with fail;refine P.mono ?_;rintro e w3 ⟨rfl,hb3⟩
 have kj:=eJ.trans (hb3.mono eJ.size)
 go_wp2_with fail;go_ret;exact⟨rfl,kj⟩):P:=h
theorem xI {P:Prop}(h:P:=by
 go_enter func101,ntmps101;go_wp2_with fail;refine P.mono ?_;rintro e w1 ⟨rfl,hb1⟩
 have y1:=(hb1.cell (p:=av pw 0) iX).trans hc;go_wp2_with fail;refine(HK.o w1 hb1).mono ?_;rintro e w2 ⟨d1,f1,d2,f2,rfl,L1,L2,hb2⟩
 have eJ:=hb1.trans (hb2.mono hb1.size)
 go_wp2_with fail;refine(L1.o w2 b9).mono ?_;rintro e w3 ⟨rfl,hb3⟩
 have kj:=eJ.trans (hb3.mono eJ.size)
 go_wp2_with fail;refine(L2.o w3 hb3).mono ?_;rintro e w4 ⟨rfl,hb4⟩
 have D4:=kj.trans (hb4.mono kj.size)
 go_wp2_with fail;go_ret2;exact⟨rfl,D4⟩):P:=h
theorem xJ {P:Prop}(h:P:=by go_wp2_with fail;refine a6 (results_none rfl _ _ _) rfl ?_;have e2:=A5.o;rw[E1.o,ji] at e2;rw[<-e2];exact⟨rfl,v,(eJ.block c (lt_of_some CC.o)).trans CC.o,oz (mF hown eJ) aa,⟨(hS.trans (fe.of eJ hsz)).os,(hS.trans (fe.of eJ hsz)).tape,(hS.trans (fe.of eJ hsz)).output,by have:=(hS.trans (fe.of eJ hsz)).size;simp at this;omega,fun k hk h1=>((hS.trans (fe.of eJ hsz)).block k aa h1).trans (aS _ _ _ hk)⟩⟩):P:=h
theorem xK {P:Prop}(h:P:=by refine bodyPost_end (results_none rfl _ _ _) rfl ?_;have e2:=A5.o;rw[xL k aa,ji] at e2;rw[<-e2];exact⟨rfl,v,(hb1.block c (lt_of_some CC.o)).trans CC.o,oz (mF hown hb1) aa,⟨(hS.trans (fe.of hb1 hsz)).os,(hS.trans (fe.of hb1 hsz)).tape,(hS.trans (fe.of hb1 hsz)).output,by have:=(hS.trans (fe.of hb1 hsz)).size;simp at this;omega,fun k hk h1=>((hS.trans (fe.of hb1 hsz)).block k aa h1).trans (aS _ _ _ hk)⟩⟩):P:=h
theorem xM {P:Prop}(h:P:=by
 obtain⟨x1,x2⟩:=hc j hlt;subst e0;obtain⟨b2,o2,e2,hb2,hc2⟩:=(HB.o.below hb) aa;obtain⟨x3,x4⟩:=hc2 j hlt;subst e2;clear hc hc2;generalize (X l j (0,0)).1=u at x1 x3;generalize (X l j (0,0)).2=v at x2 x4;go_wp2
 go_quiet (fail)
 go_wp2;go_roundw;exact⟨j+1,aa,aj,by first|exact sS hb _|exact hb.drew|exact hb⟩
 simp[bN];omega):P:=h
theorem xN {P:Prop}(h:P:=by obtain⟨d0,d1,d2,f0,f1,f2,hz⟩:=cells3 hb1;obtain⟨c0,c1,c2,c3,c4,c5,c6⟩:=((h.alloc _).below hb1 b8).cells;go_wp2_with fail;exact a6 (by simp[results,results221,go_sem,d0,d1,d2]) rfl ⟨rfl,((((b9.alloc b8 _).trans (hb1.mono ac)).setCell b8 _).setCell b8 _).setCell b8 _⟩):P:=h
theorem tJ {P:Prop}(h:P:=by
 go_wp2_with fail;refine P.mono ?_;rintro e w1 ⟨rfl,hb1⟩
 go_wp2_with fail;go_ret2;exact⟨rfl,hb1⟩):P:=h
theorem xO {P:Prop}(h:P:=by
 go_wp2_with (at_builtin;refine Lib.wpList_append_run _ rfl _ _ _ _ rfl _ _ rfl rfl _ _ hr ?_)
 go_wp2;go_ret;exact⟨_,_,rfl,hown,hb⟩):P:=h
theorem D5 {p q N O y g:Nat}{ws:List Int}(a n:Int)(w:az)(h:At w p q N O y g ws)(h0:0<=a)(b:0<=n)(c:a+n<=(N:Int)+O):
 J Ng 220 #[aq p,ak a,ak n] w fun e w'=>e=M6 (bK Nc)/\w'=w:=by
 obtain⟨c0,c1,c2,c3,c4,c5,d⟩:=h.cells;have k1:=h.hN';have f:=h.hO;go_wp2;go_ret;exact⟨by simp;omega,rfl⟩
def lX (w w':az)(g:Nat)(c:List bD)(d:Nat)(b:List bD):Prop:=
 (b=[]/\w'=w)\/w'=w.setRow g (nS c d b).toArray
theorem qM {P:Program}{ops:Array Oper}{o:Oper}{a:Act}{w:az}{K:Act->az->Prop}{Q:Exit->Act->az->Prop}{E:Prop}(B:o.guard=Y)(q s:Operand)(c l d:bU)
 (ho:o.op=.call {callee:=.builtin .copy,args:=#[q,s],argTypes:=#[c,l]})(u:P.underlying c=Z (.slice d))(x:(P.info? d).map (·.size)=Z 1)
 (m sp:Option bG)(e n f p:Nat)(hd:a.eval q=.slice m e n)(hs:a.eval s=.slice sp f p)
 (g i:Nat)(k:List bD)(t:bU)(hg:w.heap[g]?=Z (R k.toArray t (0,0)))(b:List bD)(hn:b.length=pq f e)
 (F:0<b.length->m=Z ⟨g,i,Y⟩/\∃ad,sp=Z ad/\∀j v,b[j]?=Z v->V w (ad.add j)=Z v)
 (N:i+b.length<=k.length)(S:∀v∈b,v.oneCell'=Nc)
 (h:∀w',lX w w' g k i b->K (a.put o.dst (goInt b.length)) w'):
 if Region.wanted o (yielded ops a.tmps)=Nc then Oper.wp P o a w K Q else E:=by
 rw[aJ (show Region.wanted o (yielded ops a.tmps)=Nc by simp[Region.wanted,B])];rcases Ck b.length with h0|h0
 ·have W:=gT h0;subst W;unfold Oper.wp;simp[execOp,ho,resolve,invoke,builtin,hd,hs,(run_copy_none (P:=P) w c l o.type d m sp e n f p u x aa),Result.andThen];exact h w (aM ⟨rfl,rfl⟩)
 ·obtain⟨ab,ad,ag,ai⟩:=F h0;subst ab ag;unfold Oper.wp;simp[execOp,ho,resolve,invoke,builtin,hd,hs,(run_copy_row (P:=P) w c l o.type d g i e n ad f p k.toArray t b u x hg hn ai (by simpa using N) S),Result.andThen];exact h _ (aK (by simp[nS]))
theorem tK:(prog.info? 2).map (·.size)=Z 1:=ah
theorem pE (l:List Int):∀v∈l.map (Value.int M4),v.oneCell'=Nc:=by intro v hv;obtain⟨x,_,rfl⟩:=List.mem_map.1 hv;rfl
theorem tL (ws b:List Int)(t:Nat):nS (ws.map (Value.int M4)) t (b.map (Value.int M4))=(nS ws t b).map (Value.int M4):=by simp[nS,List.map_take,List.map_drop]
theorem At.moved {w w':az}{p q N O y g:Nat}{ws b:List Int}{t:Nat}(h:At w p q N O y g ws)(hm:lX w w' q (ws.map (Value.int M4)) t (b.map (Value.int M4)))(c:t+L b<=N+O):
 At w' p q N O y g (nS ws t b)/\dj p q w w':=by
 rcases hm with⟨e,rfl⟩|rfl
 ·have d:b=[]:=by simpa using e
  subst d;have f:nS ws t []=ws:=by simp[nS]
  rw[f];exact⟨h,dj.refl _ _ _⟩
 ·rw[tL];exact⟨h.row (by rw[length_splice _ _ _ ((h.hl▸c))];exact h.hl),dj.Dy _⟩
theorem At.src {w:az}{p q N O y g:Nat}{ws:List Int}(h:At w p q N O y g ws)(f n:Nat)(e:f+n<=N+O)(j:Nat)(v:bD)(hv:(((ws.drop f).take n).map (Value.int M4))[j]?=Z v):
 V w ((⟨q,f,Y⟩:bG).add j)=Z v:=by
 rw[kg] at hv;obtain⟨x,b,rfl⟩:=Option.map_eq_some_iff.1 hv;have c:=(List.getElem?_eq_some_iff.1 b).1;have d:j<n:=by simp at c;omega
 have:=h.word (f+j) aa;rw[show((⟨q,f,Y⟩:bG).add j)=⟨q,f+j,Y⟩ by simp[Addr.add],this];rw[List.getElem?_take_of_lt d,List.getElem?_drop] at b;simp[List.getD_eq_getElem?_getD,b]
theorem xP {p q N O y g:Nat}{ws:List Int}(t f n:Nat)(w:az)(b:At w p q N O y g ws)(x:t+n<=N+O)(k:f+n<=N+O):
 J Ng 162 #[aq p,ak t,ak f,ak n] w fun e w'=>e=M6 (a8 #[])/\At w' p q N O y g (nS ws t ((ws.drop f).take n))/\dj p q w w':=by
 obtain⟨c0,c1,c2,c3,c4,c5,B⟩:=b.cells;have k1:=b.hN';have F:=b.hO;have hl:=b.hl;have b1:IntKind.i64.wrap ((t:Int)+n)=(t:Int)+n:=by rw[bA];omega
 have b2:IntKind.i64.wrap ((f:Int)+n)=(f:Int)+n:=by rw[bA];omega
 have b3:(t:Int)+n<=(N:Int)+O:=aa;have b4:(f:Int)+n<=(N:Int)+O:=aa;have b5:((t:Int)+n).toNat=t+n:=aa;have b6:((f:Int)+n).toNat=f+n:=aa;have S:(0:Int)<=(t:Int)+n:=aa;have W:(0:Int)<=(f:Int)+n:=aa;have c:((ws.drop f).take n).length=n:=by simp;omega
 have l:aA ((((ws.drop f).take n).map (Value.int M4)).length=pq n n):=by show _=_;rw[aZ,c];simp
 have m:aA (0<(((ws.drop f).take n).map (Value.int M4)).length->(if N+O=t then Z (⟨q,0,Y⟩:bG) else Z ⟨q,t,Y⟩)=Z ⟨q,t,Y⟩/\∃ad,(if N+O=f then Z (⟨q,0,Y⟩:bG) else Z ⟨q,f,Y⟩)=Z ad/\∀j v,(((ws.drop f).take n).map (Value.int M4))[j]?=Z v->V w.drew (ad.add j)=Z v):=by intro o;rw[aZ,c] at o;rw[aI aa,aI aa];exact⟨rfl,_,rfl,fun j v hv=>b.drew.src f n k j v hv⟩
 have s:aA (t+(((ws.drop f).take n).map (Value.int M4)).length<=(ws.map (Value.int M4)).length):=by show _<=_;rw[aZ,aZ,c];omega
 clear c hl;go_enter func162,ntmps162;go_wp2_with (go_at_call 220;refine(D5 _ _ _ b ?_ ?_ ?_).mono ?_;omega;omega;omega;rintro e w1 ⟨rfl,hw⟩;have hw:=hw.symm;subst hw)
 go_region_law (refine qM rfl (.tmp 26) (.tmp 35) 53 53 2 rfl underlying53 tK (if N+O=t then au q else Z ⟨q,t,Y⟩) (if N+O=f then au q else Z ⟨q,f,Y⟩) n (N+O-t) n (N+O-f) ?_ ?_ q t (ws.map (Value.int M4)) 2 b.drew.hq (((ws.drop f).take n).map (Value.int M4)) l.o m.o s.o (pE _) ?_;(first|rfl|simp[Act.eval,Act.put]);(first|rfl|simp[Act.eval,Act.put]);intro ab d;obtain⟨i,u⟩:=b.drew.moved d (by simp;omega);clear d)
 all_goals go_wp2_with fail
 all_goals
  go_end0;refine⟨rfl,?_,(dj.refl _ _ _).drew.trans u⟩
  first
   |exact i
   |(
    have e:t=f:=aa;subst e;exact i)
theorem qN (x:Int)(h:pc x=0):0<=pf x/\pf x<=12:=by have:=jo _ _ (Df x h).1;omega
theorem D6:pc 0=7:=by decide+kernel
theorem xQ {N y g:Nat}{ws:List Int}{a:Int}(h:pc (ld N y g ws a)=0):dw N y g a=Nc:=by
 cases hi:dw N y g a
 ·have e:ld N y g ws a=0:=by simp[ld,hi]
  rw[e,D6] at h;omega
 ·rfl
def gY (N y g:Nat)(a:Int):Int:=if hB 0 y a=Nc then(y:Int) else(N:Int)+g
theorem cells3 {w w1:az}{a b c:bD}{t:bU}(hb:C (I (G (bj w (R #[a,b,c] t)))) (bj w (R #[a,b,c] t)) w1):
 V w1 (av (I (G w)) 0)=Z a/\V w1 (av (I (G w)) 1)=Z b/\V w1 (av (I (G w)) 2)=Z c/\bO w1 (av (I (G w)) 0)=Nb/\bO w1 (av (I (G w)) 1)=Nb/\bO w1 (av (I (G w)) 2)=Nb/\I (G w)<I (G w1):=by
 obtain⟨hc,d⟩:=oi hb;have hz:=hb.size;refine⟨?_,?_,?_,?_,?_,?_,by simp at hz;omega⟩
 ·rw[hc _ _ ac];simp[go_sem]
 ·rw[hc _ _ ac];simp[go_sem]
 ·rw[hc _ _ ac];simp[go_sem]
 ·rw[d _ _ ac];simp[go_sem]
 ·rw[d _ _ ac];simp[go_sem]
 ·rw[d _ _ ac];simp[go_sem]
theorem D7 {p q N O y g:Nat}{ws:List Int}(a:Int)(w:az)(h:At w p q N O y g ws)(hy:hB 0 y a=Nc):
 J Ng 221 #[aq p,ak a] w fun e w'=>e=M6 (bF #[ak 0,ak N,ak y])/\C (I (G w)) w w':=by
 go_enter func221,ntmps221;go_wp2_with fail;refine(nt a _ (h.alloc _)).mono ?_;rintro e w1 ⟨rfl,hb1⟩
 rw[(hide hy).o];exact xN
theorem D8 {p q N O y g:Nat}{ws:List Int}(a:Int)(w:az)(h:At w p q N O y g ws)(hy:hB 0 y a=Nb):
 J Ng 221 #[aq p,ak a] w fun e w'=>e=M6 (bF #[ak N,ak O,ak g])/\C (I (G w)) w w':=by
 have b:=hide hy;clear hy;go_enter func221,ntmps221;go_wp2_with fail;refine(nt a _ (h.alloc _)).mono ?_;rintro e w1 ⟨rfl,hb1⟩
 rw[b.o];exact xN
theorem tM {p q N O y g:Nat}{ws:List Int}(a:Int)(w:az)(h:At w p q N O y g ws):∃b s u:Int,0<=b/\b<=100000/\0<=u/\u<=100000/\b+u=gY N y g a/\
 J Ng 221 #[aq p,ak a] w fun e w'=>e=M6 (bF #[ak b,ak s,ak u])/\C (I (G w)) w w':=by
 have k1:=h.hN';have c:=h.hy;have d:=h.hO;have f:=h.hg;cases hy:hB 0 y a
 ·exact⟨N,O,g,aa,aa,aa,aa,by simp[gY,hy],D8 a w h hy⟩
 ·exact⟨0,N,y,aa,aa,aa,aa,by simp[gY,hy],D7 a w h hy⟩
theorem D9 {N O y g:Nat}{a:Int}(hN:N<=256)(hO:O<=1024)(hy:y<=N)(hg:g<=O):0<=gY N y g a/\gY N y g a<=1280:=by unfold gY;split<;>omega
theorem D_ {p q N O y g:Nat}{ws:List Int}(a:Int)(w:az)(h:At w p q N O y g ws)(hp:pc (ld N y g ws a)=0)(hr:1+pf (ld N y g ws a)<=gY N y g a-a)(hg:1+pf (ld N y g ws a)<=(O:Int)-g):
 J Ng 165 #[aq p,ak a] w fun e w'=>e=M6 (ak (N+g:Nat))/\At w' p q N O y (g+(1+M (pf (ld N y g ws a)))) (nS ws (N+g) ((ws.drop (M a)).take (1+M (pf (ld N y g ws a)))))/\dj p q w w':=by
 obtain⟨c,o⟩:=qN _ hp;obtain⟨t,am⟩:=jV (xQ hp) h.hy h.hg;have v:=h.hy;have x:=h.hO;have B:=h.hg;have k5:=@D9 N O y g a h.hN' x v B;have k6:gY N y g a<=(N:Int)+O:=by unfold gY;split<;>omega
 have F:=hide hp;clear hp;obtain⟨a,rfl⟩:=bH t;rw[bI];obtain⟨n,hn⟩:=bH c;have S:=hide hn;rw[hn] at hr hg o c⊢;clear hn;rw[bI];go_enter func165,ntmps165;go_wp2_with fail;refine(gO a _ h).mono ?_;rintro e w1 ⟨rfl,d⟩
 rw[F.o,S.o];have f:=h.below d b8
 go_wp2_with fail;obtain⟨b,s,u,W,ab,ad,ag,i,hc⟩:=tM a w1 f;refine hc.mono ?_;rintro e an ⟨rfl,j⟩
 clear hc;go_wp2_with fail;refine(mE b s u _ W ab ad ag).mono ?_;rintro e ao ⟨rfl,k⟩
 have ai:=hide i;clear i;rw[ai.o];have l:=(f.below j b8).below k b8
 obtain⟨c0,c1,c2,c3,c4,c5,ap⟩:=l.cells;go_wp2_with fail;refine(DX (1+n) _ l aa aa).mono ?_;rintro e ar ⟨rfl,m,s4⟩
 rw[show M (1+(n:Int))=1+n by omega] at m;go_wp2_with fail;rw[show(1+(n:Int))=((1+n:Nat):Int) by omega];refine(xP (N+g) a (1+n) _ m aa aa).mono ?_;rintro e aB ⟨rfl,al,s5⟩
 go_wp2_with fail;go_ret;exact⟨rfl,al,(((dj.of d).trans (dj.of j)).trans (dj.of k)).trans (s4.trans s5)⟩
theorem Ea {p q N O y g:Nat}{ws:List Int}(a:Int)(w:az)(h:At w p q N O y g ws)(x:pc (ld N y g ws a)≠0\/gY N y g a-a<1+pf (ld N y g ws a)\/(O:Int)-g<1+pf (ld N y g ws a)):
 J Ng 165 #[aq p,ak a] w fun e w'=>e=M6 (ak (-1))/\C (I (G w)) w w':=by
 by_cases hp:pc (ld N y g ws a)=0
 ·obtain⟨ab,ad⟩:=qN _ hp;have hi:=xQ hp;obtain⟨ag,ai⟩:=jV hi h.hy h.hg;have k1:=h.hN';have al:=h.hy;have am:=h.hO;have an:=h.hg;have ao:gY N y g a-a<1+pf (ld N y g ws a)\/(O:Int)-g<1+pf (ld N y g ws a):=by
   rcases x with e|e
   ·exact absurd hp e
   ·exact e
  have t:=hide hp;by_cases hr:gY N y g a-a<1+pf (ld N y g ws a)
  ·go_enter func165,ntmps165;go_wp2_with fail;refine(gO a _ h).mono ?_;rintro e w1 ⟨rfl,c⟩
   rw[t.o];have i:=h.below c b8
   go_wp2_with fail;obtain⟨b,s,u,j,k,l,m,n,hc⟩:=tM a w1 i;refine hc.mono ?_;rintro e B ⟨rfl,d⟩
   go_wp2_with fail;refine(mE b s u _ j k l m).mono ?_;rintro e F ⟨rfl,f⟩
   have o:=hide n;rw[o.o];go_wp2_with fail;go_ret;exact⟨rfl,(c.trans (d.mono c.size)).trans (f.mono (aU c.size d.size))⟩
  ·go_enter func165,ntmps165;go_wp2_with fail;refine(gO a _ h).mono ?_;rintro e w1 ⟨rfl,c⟩
   rw[t.o];have i:=h.below c b8
   go_wp2_with fail;obtain⟨b,s,u,j,k,l,m,n,hc⟩:=tM a w1 i;refine hc.mono ?_;rintro e B ⟨rfl,d⟩
   have S:=i.below d b8
   go_wp2_with fail;refine(mE b s u _ j k l m).mono ?_;rintro e F ⟨rfl,f⟩
   have o:=hide n;rw[o.o];have v:=S.below f b8
   obtain⟨c0,c1,c2,c3,c4,c5,ap⟩:=v.cells;go_wp2_with fail;refine(DY _ _ v aa).mono ?_;rintro e ar ⟨rfl,W⟩
   go_wp2_with fail;go_ret;exact⟨rfl,((c.trans (d.mono c.size)).trans (f.mono (aU c.size d.size))).trans (W.mono (aU c.size (aU d.size f.size)))⟩
 ·go_enter func165,ntmps165;go_wp2_with fail;refine(gO a _ h).mono ?_;rintro e w1 ⟨rfl,c⟩
  go_wp2_with fail;go_ret;exact⟨rfl,c⟩
structure fe (B c:Nat)(w w':az):Prop where
 os:w'.os=w.os
 tape:w'.tape=w.tape
 output:w'.output=w.output
 size:I (G w)<=I (G w')
 block:∀k,k<B->k≠c->w'.heap[k]?=w.heap[k]?
theorem fe.refl (B c:Nat)(w:az):fe B c w w:=⟨rfl,rfl,rfl,aG _,fun _ _ _=>rfl⟩
theorem fe.trans {B c:Nat}{a b d:az}(h:fe B c a b)(k:fe B c b d):fe B c a d:=
 ⟨k.os.trans h.os,k.tape.trans h.tape,k.output.trans h.output,aU h.size k.size,fun i hi e=>(k.block i hi e).trans (h.block i hi e)⟩
theorem fe.of {B D c:Nat}{w w':az}(h:C D w w')(b:B<=D):fe B c w w':=⟨h.os,h.tape,h.output,h.size,fun k hk _=>h.block k aa⟩
theorem fe.below {B D c:Nat}{w w':az}(h:fe B c w w')(b:D<=B)(hc:D<=c):C D w w':=⟨h.os,h.tape,h.output,h.size,fun k hk=>h.block k aa aa⟩
theorem mF {w w':az}{base n:Nat}{e:bU}{v:bD}{l:List bD}(h:aC w base e 1 v n l)(hb:C (I (G w)) w w'):aC w' base e 1 v n l:=by
 obtain⟨f,c⟩:=h;refine⟨f,?_⟩
 rcases c with c|⟨b,cap,g,hv,i,d,r⟩
 ·exact aM c
 ·exact aK ⟨b,cap,g,hv,i,(hb.block b (lt_of_some d)).trans d,r⟩
theorem oz {w:az}{base base' n:Nat}{e:bU}{v:bD}{l:List bD}(h:aC w base e 1 v n l)(hb:base'<=base):aC w base' e 1 v n l:=by
 obtain⟨d,c⟩:=h;refine⟨d,?_⟩
 rcases c with c|⟨b,cap,f,hv,g,r⟩
 ·exact aM c
 ·exact aK ⟨b,cap,f,hv,aa,r⟩
theorem xR {w w':az}{base B c n:Nat}{e:bU}{v:bD}{l:List bD}(h:aC w base e 1 v n l)(hs:fe B c w w')(hB:I (G w)<=B)(hc:c<base):aC w' base e 1 v n l:=by
 obtain⟨g,d⟩:=h;refine⟨g,?_⟩
 rcases d with d|⟨b,cap,i,hv,j,f,r⟩
 ·exact aM d
 ·exact aK ⟨b,cap,i,hv,j,(hs.block b (by have:=lt_of_some f;omega) aa).trans f,r⟩
theorem kk:(prog.info? 3).map (fun i=>(i.zero,i.size,i.bytes))=Z (Z (ak 0),1,8):=ah
theorem xS {w:az}{base n c:Nat}{e:bU}{v:bD}{l:List bD}(h:aC w base e 1 v n l)(hc:c<base):Z c≠Nh v:=by
 obtain⟨_,d⟩:=h;rcases d with⟨rfl,_⟩|⟨b,cap,f,rfl,g,_⟩
 ·simp[Value.ownBlock]
 ·simp[Value.ownBlock];omega
theorem xT {w:az}{base n:Nat}{e:bU}{v:bD}{l:List bD}(h:aC w base e 1 v n l):∀k,Nh v=Z k->base<=k:=by
 obtain⟨_,c⟩:=h;intro k hk;rcases c with⟨rfl,_⟩|⟨b,cap,d,rfl,f,_⟩
 ·simp[Value.ownBlock] at hk
 ·simp[Value.ownBlock] at hk;omega
theorem xU {w:az}{base n:Nat}{e:bU}{v:bD}{l:List bD}(h:aC w base e 1 v n l)(hn:0<n):∃b cap,v=H (au b) n cap:=by
 obtain⟨_,c⟩:=h;rcases c with⟨_,c⟩|⟨b,cap,d,hv,_⟩
 ·omega
 ·exact⟨b,cap,hv⟩
def eU (N y g:Nat)(ws:List Int)(hi:Int):Nat->Int->List Int
 |0,_=>[]
 |k+1,a=>if a<hi then(if pc (ld N y g ws a)=0 then a::eU N y g ws hi k (a+(1+pf (ld N y g ws a))) else[]) else[]
theorem xL {N y g:Nat}{ws:List Int}{hi a:Int}(k:Nat)(h:hi<=a):eU N y g ws hi k a=[]:=by
 cases k with
 |zero=>rfl
 |succ k=>unfold eU;rw[aI aa]
theorem xV {N y g:Nat}{ws:List Int}{hi a:Int}(k:Nat)(h:pc (ld N y g ws a)≠0):eU N y g ws hi k a=[]:=by
 cases k with
 |zero=>rfl
 |succ k=>unfold eU;split<;>rfl
theorem xW {N y g:Nat}{ws:List Int}{hi a:Int}(k:Nat)(hk:hi-a<=k)(h:a<hi)(c:pc (ld N y g ws a)=0):
 ∃b,k=b+1/\eU N y g ws hi k a=a::eU N y g ws hi b (a+(1+pf (ld N y g ws a))):=by
 cases k with
 |zero=>omega
 |succ k=>exact⟨k,rfl,by rw[eU,aJ h,aJ c]⟩
theorem aE{w:World}{b o:Nat}{c:Array bD}{T:bU}(h:w.heap[b]?=Z (R c T (0,0))):bO w ⟨b,o,Y⟩=Nb:=by simp[World.frozen?,h]
theorem Eb (a:Int)(c base:Nat)(v:bD)(L:List Int)(w:az)(hc:w.heap[c]?=Z (R #[v] 74 (0,0)))(i:c<base)(hB:base<=I (G w))
 (f:aC w base 3 1 v L.length (L.map (Value.int M4)))(S:L.length<=100000):
 J Ng 196 #[ak a,aq c] w fun e w'=>e=M6 (a8 #[])/\∃g,w'.heap[c]?=Z (R #[g] 74 (0,0))/\aC w' base 3 1 g (L++[a]).length ((L++[a]).map (Value.int M4))/\fe base c w w':=by
 obtain⟨o,hi,p,q,s⟩:=bV kk;have cc:V w (av c 0)=Z v:=aD hc
 have t:=hide hc;clear hc;have x:c<I (G w):=aa;go_enter func196,ntmps196;go_wp2_with (at_builtin;refine vH _ rfl _ _ 74 rfl base 3 o _ 1 8 underlying74 hi p q s rfl ae _ L.length _ rfl (f.alloc _) ⟨I (G w),0,Y⟩ 1 1 [ak a] rfl rfl ?_ ?_ ?_ ?_ ?_ ?_;(intro j u d;match j,d with|0,d=>(simp at d;subst d;simp[Addr.add]));(intro u l;simp at l;subst l;rfl);(unfold bW;omega);omega;(simp;omega);intro g w1 m n _;obtain⟨b1,gN,B⟩:=xU m (j3 _);subst B;have b:=(n.block c (by simp;omega) (xS f i)).trans ((aS _ _ _ x).trans t.o);have W:V w1 (av c 0)=Z v:=aD b;have ab:bO w1 (av c 0)=Nb:=aE b;have F:=hide b;clear b)
 go_end0;refine⟨rfl,H (au b1) (L.length+1) gN,?_,?_,?_⟩
 ·have b:=F.o;simp only [World.setCell,bL,if_true,b,bS];simp
 ·have:=ownsRow_setCell_below m (a:=⟨c,0,Y⟩) i (H (au b1) (L.length+1) gN)
  simpa using this
 ·refine(fe.of ((aH base w).alloc hB _) b8).trans (fe.trans (fe.of ((aH base _).grown n (by simp;omega) (xT f)) b8) ?_)
  exact⟨rfl,rfl,rfl,by simp[World.setCell],fun k _ N=>aX _ _ _ _ N⟩
theorem xX {p q N O y g:Nat}{ws:List Int}(b s u:Int)(c:Nat)(w:az)(h:At w p q N O y g ws)(hc:w.heap[c]?=Z (R #[H Y 0 0] 74 (0,0)))(m:p≠c)(n:q≠c)
 (o:0<=b)(b1:b<=2000)(u0:0<=u)(aF:u<=2000):
 J Ng 195 #[aq p,bF #[ak b,ak s,ak u],.func (.func 196) #[] #[aq c]] w fun e w'=>e=M6 (a8 #[])/\∃v,w'.heap[c]?=Z (R #[v] 74 (0,0))/\aC w' (I (G w)) 3 1 v (eU N y g ws (b+u) 2000 b).length ((eU N y g ws (b+u) 2000 b).map (Value.int M4))/\fe (I (G w)) c w w':=by
 have lp:=h.fj;have x:=lt_of_some hc;have B:aA (_=_):=hc;clear hc;go_enter func195,ntmps195;go_wp2_with fail
 go_loopw [6] (fun i wr=>∃(a:Int)(L:List Int)(k:Nat)(v:bD),i=ak a/\b<=a/\a<=100000/\b+u-a<=k/\(L.length:Int)+b<=a/\L++eU N y g ws (b+u) k a=eU N y g ws (b+u) 2000 b/\wr.heap[c]?=Z (R #[v] 74 (0,0))/\aC wr (I (G w)+1) 3 1 v L.length (L.map (Value.int M4))/\fe (I (G w)+1) c (bj w (R #[U M4 b,U M4 s,U M4 u] 120)) wr) (fun i _=>M (b+u-bN i))
 case atStart=>exact⟨b,[],2000,_,rfl,aa,aa,aa,ac,rfl,(aS _ _ _ x).trans B.o,bf _ _ _ _,fe.refl _ _ _⟩
 case round=>
  obtain⟨a,L,k,v,rfl,a1,a2,F,aR,j,hc,hown,hS⟩:=hrel;have d:=hS.block (I (G w)) aa aa;rw[aP] at d;have S:V wr (av (I (G w)) 0)=Z (ak b):=aD d
  have W:V wr (av (I (G w)) 1)=Z (ak s):=aD d
  have ab:V wr (av (I (G w)) 2)=Z (ak u):=aD d
  have ad:_:=(h.alloc _).same (hS.block p aa m) (hS.block q (by have:=h.fp;omega) n)
  have hsz:=hS.size;simp only [World.size_alloc] at hsz;have A5:aA (_=_):=j;have CC:aA (_=_):=hc;have aV:aA (_=_):=d;clear j hc d;go_wp2_with fail;refine(mE b s u _ o aa u0 aa).mono ?_;rintro e w1 ⟨rfl,hb1⟩
  clear S W ab;by_cases ag:a<b+u
  ·go_wp2_with fail;refine(gO a _ (ad.below hb1 b8)).mono ?_;rintro e ai ⟨rfl,al⟩
   have eJ:_:=hb1.trans (al.mono hb1.size)
   by_cases hp:pc (ld N y g ws a)=0
   ·obtain⟨a0,a3⟩:=qN _ hp;obtain⟨am,rfl,f⟩:=xW (N:=N) (y:=y) (g:=g) (ws:=ws) k F ag hp;have an:aA (_=_):=hp;have E1:aA (_=_):=f;clear hp f;rw[an.o];go_wp2_with fail;refine(Eb a c (I (G w)+1) v L ai ((eJ.block c (lt_of_some CC.o)).trans CC.o) aa (by have:=eJ.size;omega) (mF hown eJ) aa).mono ?_;rintro e a4 ⟨rfl,ao,l,ap,ar⟩
    have aB:aA (_=_):=l;clear l;go_wp2_with fail;go_roundw
    case rel=>exact⟨a+(1+pf (ld N y g ws a)),L++[a],am,ao,rfl,aa,aa,aa,by simp;omega,by rw[<-A5.o,E1.o];simp,aB.o,ap,(hS.trans (fe.of eJ hsz)).trans ar⟩
    case measure=>simp[bN];omega
   ·have t:(pc (ld N y g ws a)!=0)=Nc:=by simpa using hp
    have f:=xV (N:=N) (y:=y) (g:=g) (ws:=ws) (hi:=b+u) k hp;have E1:aA (_=_):=f;clear hp f;exact xJ
  ·go_wp2_with fail;exact xK
theorem Ec (a:Int)(c base:Nat)(v:bD)(L:List Int)(w:az)(hc:w.heap[c]?=Z (R #[v] 74 (0,0)))(i:c<base)(hB:base<=I (G w))
 (f:aC w base 3 1 v L.length (L.map (Value.int M4)))(S:L.length<=100000):
 J Ng 197 #[ak a,aq c] w fun e w'=>e=M6 (a8 #[])/\∃g,w'.heap[c]?=Z (R #[g] 74 (0,0))/\aC w' base 3 1 g (L++[a]).length ((L++[a]).map (Value.int M4))/\fe base c w w':=by
 obtain⟨o,hi,p,q,s⟩:=bV kk;have cc:V w (av c 0)=Z v:=aD hc
 have t:=hide hc;clear hc;have x:c<I (G w):=aa;go_enter func197,ntmps197;go_wp2_with (at_builtin;refine vH _ rfl _ _ 74 rfl base 3 o (ak 0) 1 8 underlying74 hi p q s rfl ae _ L.length (L.map (Value.int M4)) rfl (f.alloc _) ⟨I (G w),0,Y⟩ 1 1 [ak a] rfl rfl ?_ ?_ ?_ ?_ ?_ ?_;(intro j u d;match j,d with|0,d=>(simp at d;subst d;simp[Addr.add]));(intro u l;simp at l;subst l;rfl);(unfold bW;omega);omega;(simp;omega);intro g w1 m n _;obtain⟨b1,gN,B⟩:=xU m (j3 _);subst B;have b:=(n.block c (by simp;omega) (xS f i)).trans ((aS _ _ _ x).trans t.o);have W:V w1 (av c 0)=Z v:=aD b;have ab:bO w1 (av c 0)=Nb:=aE b;have F:=hide b;clear b)
 go_end0;refine⟨rfl,H (au b1) (L.length+1) gN,?_,?_,?_⟩
 ·have b:=F.o;simp only [World.setCell,bL,if_true,b,bS];simp
 ·have:=ownsRow_setCell_below m (a:=⟨c,0,Y⟩) i (H (au b1) (L.length+1) gN)
  simpa using this
 ·refine(fe.of ((aH base w).alloc hB _) b8).trans (fe.trans (fe.of ((aH base _).grown n (by simp;omega) (xT f)) b8) ?_)
  exact⟨rfl,rfl,rfl,by simp[World.setCell],fun k _ N=>aX _ _ _ _ N⟩
theorem xY {p q N O y g:Nat}{ws:List Int}(b s u:Int)(c:Nat)(w:az)(h:At w p q N O y g ws)(hc:w.heap[c]?=Z (R #[H Y 0 0] 74 (0,0)))(j:p≠c)(l:q≠c)
 (m:0<=b)(b1:b<=2000)(u0:0<=u)(ao:u<=2000):
 J Ng 195 #[aq p,bF #[ak b,ak s,ak u],.func (.func 197) #[] #[aq c]] w fun e w'=>e=M6 (a8 #[])/\∃v,w'.heap[c]?=Z (R #[v] 74 (0,0))/\aC w' (I (G w)) 3 1 v (eU N y g ws (b+u) 2000 b).length ((eU N y g ws (b+u) 2000 b).map (Value.int M4))/\fe (I (G w)) c w w':=by
 have lp:=h.fj;have n:=lt_of_some hc;have o:=hide hc;clear hc;go_enter func195,ntmps195;go_wp2_with fail
 go_loopw [6] (fun i wr=>∃(a:Int)(L:List Int)(k:Nat)(v:bD),i=ak a/\b<=a/\a<=100000/\b+u-a<=k/\(L.length:Int)+b<=a/\L++eU N y g ws (b+u) k a=eU N y g ws (b+u) 2000 b/\wr.heap[c]?=Z (R #[v] 74 (0,0))/\aC wr (I (G w)+1) 3 1 v L.length (L.map (Value.int M4))/\fe (I (G w)+1) c (bj w (R #[U M4 b,U M4 s,U M4 u] 120)) wr) (fun i _=>M (b+u-bN i))
 exact⟨b,[],2000,_,rfl,aa,aa,aa,ac,rfl,(aS _ _ _ n).trans o.o,bf _ _ _ _,fe.refl _ _ _⟩
 ·
   obtain⟨a,L,k,v,rfl,a1,a2,t,ap,x,hc,hown,hS⟩:=hrel;have d:=hS.block (I (G w)) aa aa;rw[aP] at d;have ar:V wr (av (I (G w)) 0)=Z (ak b):=aD d
   have aB:V wr (av (I (G w)) 1)=Z (ak s):=aD d
   have aF:V wr (av (I (G w)) 2)=Z (ak u):=aD d
   have B:=(h.alloc _).same (hS.block p aa j) (hS.block q (by have:=h.fp;omega) l)
   have hsz:=hS.size;simp only [World.size_alloc] at hsz;have A5:=hide x;have CC:=hide hc;go_wp2_with fail;refine(mE b s u _ m aa u0 aa).mono ?_;rintro e w1 ⟨rfl,hb1⟩
   by_cases F:a<b+u
   ·go_wp2_with fail;refine(gO a _ (B.below hb1 b8)).mono ?_;rintro e S ⟨rfl,W⟩
    have eJ:=hb1.trans (W.mono hb1.size)
    by_cases hp:pc (ld N y g ws a)=0
    ·obtain⟨aR,aV⟩:=qN _ hp;obtain⟨ab,rfl,f⟩:=xW (N:=N) (y:=y) (g:=g) (ws:=ws) k t F hp;have ad:=hide hp;have E1:=hide f;rw[ad.o];go_wp2_with fail;refine(Ec a c (I (G w)+1) v L S ((eJ.block c (lt_of_some CC.o)).trans CC.o) aa (by have:=eJ.size;omega) (mF hown eJ) aa).mono ?_;rintro e a0 ⟨rfl,ag,ai,al,am⟩
     have an:=hide ai;go_wp2_with fail;go_roundw;exact⟨a+(1+pf (ld N y g ws a)),L++[a],ab,ag,rfl,aa,aa,aa,by simp;omega,by rw[<-A5.o,E1.o];simp,an.o,al,(hS.trans (fe.of eJ hsz)).trans am⟩
     simp[bN];omega
    ·have f:=xV (N:=N) (y:=y) (g:=g) (ws:=ws) (hi:=b+u) k hp;have E1:=hide f;exact xJ
   ·go_wp2_with fail;exact xK
def eN (N y g:Nat)(ws:List Int):List Int:=eU N y g ws y 2000 0
def dM (N y g:Nat)(ws:List Int):List Int:=eU N y g ws ((N:Int)+g) 2000 N
theorem qO {p q N O y g:Nat}{ws:List Int}(w:az)(h:At w p q N O y g ws):
 J Ng 129 #[aq p] w fun e w'=>∃v1 v2,e=M6 (a8 #[v1,v2])/\aC w' (I (G w)) 3 1 v1 (L (eN N y g ws)) ((eN N y g ws).map (Value.int M4))/\aC w' (I (G w)) 3 1 v2 (L (dM N y g ws)) ((dM N y g ws).map (Value.int M4))/\C (I (G w)) w w':=by
 obtain⟨c0,c1,c2,c3,c4,c5,f⟩:=h.cells;have lp:=h.fj;have u:=h.fp;have k1:=h.hN';have v:=h.hy;have x:=h.hO;have B:=h.hg;go_enter func129,ntmps129;go_wp2_with fail;refine(xX 0 N y (I (G w)) _ ((h.alloc _).alloc _) ((aS _ _ _ ac).trans (aP _ _)) aa aa aa aa aa aa).mono ?_;rintro e w1 ⟨rfl,v1,i,j,b⟩
 have k:=((h.alloc _).alloc _).same (b.block p (by simp;omega) aa) (b.block q (by simp;omega) aa)
 have c:=(b.block (I (G w)+1) ac aa).trans (tH _ ac)
 have m:=hide i;have n:=hide c;have o:=b.size;simp only [World.size_alloc] at o;clear i c c0 c1 c2 c3 c4 c5 f;obtain⟨c0,c1,c2,c3,c4,c5,f⟩:=k.cells;go_wp2_with fail;refine(xY N O g (I (G w)+1) _ k n.o aa aa aa aa aa aa).mono ?_;rintro e l ⟨rfl,v2,c,s,d⟩
 have F:V l (av (I (G w)) 0)=Z v1:=by have:=(d.block (I (G w)) aa aa).trans m.o;simp[World.cell?,this]
 have S:V l (av (I (G w)+1) 0)=Z v2:=aD c
 have W:=d.size;clear c;go_wp2
 go_quiet (fail)
 go_wp2;go_ret2;simp only [World.size_alloc] at j b;have t:eN N y g ws=eU N y g ws (0+(y:Int)) 2000 0:=by rw[Int.zero_add];rfl
 refine⟨v1,v2,rfl,?_,?_,?_⟩
 ·rw[t];exact mF (oz (base:=I (G w)+1+1) (xR j d b8 aa) aa) (sS b9 _)
 ·exact mF (oz s aa) (sS b9 _)
 ·exact sS (((b9.alloc b8 _).alloc ac _).trans ((b.below aa b8).trans (d.below aa aa))) _
open Go.RowKit W Kp cq
theorem xZ (a b:Option bG)(ca cb:Nat)(l:List (Int×Int))(w:az)(hm:L l<=100000)(ha:dA w a l)(hb:dA w b l):
 J Ng 63 #[H a (L l) ca,H b (L l) cb] w fun e w'=>e=M6 (bK Nc)/\C (I (G w)) w w':=by
 have c:=hide ha;have HB:=hide hb;clear ha hb;go_enter func63,ntmps63;go_wp2
 go_loopw [5] (fun iv wr=>∃j:Nat,j<=L l/\iv=ak j/\C (I (G w)) w wr) (fun iv _=>L l-M (bN iv))
 exact⟨0,a5 _,rfl,aH _ _⟩
 ·
   obtain⟨j,d,rfl,hb⟩:=hrel;by_cases hlt:j<L l
   ·obtain⟨f,g,e0,i,hc⟩:=(c.o.below hb) aa;exact xM
   ·obtain rfl:j=L l:=aa;go_wp2;go_ret;exact⟨rfl,hb⟩
theorem Ln.at {w:az}{ad:Option bG}{c:List _}(h:Ln w ad c){i:Nat}(hi:i<L c):∃b o f fc,ad=Z ⟨b,o,Y⟩/\b<I (G w)/\V w (av b (o+i*2))=Z (ak (X c i (0,[])).1)/\V w (av b (o+i*2+1))=Z (H f (L (X c i (0,[])).2) fc)/\dA w f (X c i (0,[])).2:=by
 obtain⟨m,g,j,k⟩:=h;have hl:L m=L c:=by rw[<-g];simp[iG]
 obtain⟨b,o,e,hb,hc⟩:=k aa;obtain⟨x,d⟩:∃x,m[i]?=Z x:=⟨_,aN aa⟩
 have en:X c i (0,[])=(x.1,x.2.2.2):=by subst g;rw[aL,iG,kg,d];rfl
 rw[en];exact⟨b,o,_,_,e,hb,(hc i _ d).1,(hc i _ d).2,j _ (List.mem_of_getElem? d)⟩
theorem ax(w:World):C (I (G w)) w w:=Below.refl _ w
theorem x0 (r1 g n1 d:Option bG)(c1 c2 i k:Nat)(c:List (Int×Int))(b:List (Int×List (Int×Int)))(w:az)(hm:L c<=100000)(hl:L b<=100000)(S:∀nd∈b,L nd.2<=100000)(W:dA w r1 c)(ab:dA w g c)(ad:Ln w n1 b)(ag:Ln w d b):
 J Ng 24 #[bF #[H r1 (L c) c1,H n1 (L b) i],bF #[H g (L c) c2,H d (L b) k]] w fun e w'=>e=M6 (bK Nc)/\C (I (G w)) w w':=by
 have n:=(aw w (R #[H r1 (L c) c1,H n1 (L b) i] 60)).alloc ac (R #[H g (L c) c2,H d (L b) k] 60)
 have k0:V (bj (bj w (R #[H r1 (L c) c1,H n1 (L b) i] 60)) (R #[H g (L c) c2,H d (L b) k] 60)) (av (I (G w)) 1)=Z (H n1 (L b) i):=by simp[go_sem]
 have k1:V (bj (bj w (R #[H r1 (L c) c1,H n1 (L b) i] 60)) (R #[H g (L c) c2,H d (L b) k] 60)) (av (I (G w)+1) 1)=Z (H d (L b) k):=by simp[go_sem]
 have ai:I (G (bj (bj w (R #[H r1 (L c) c1,H n1 (L b) i] 60)) (R #[H g (L c) c2,H d (L b) k] 60)))=I (G w)+2:=ac;have P:=xZ r1 g c1 c2 c _ hm (W.below n) (ab.below n)
 have a4:aA (∀w',C (I (G w)) w w'->Ln w' n1 b):=fun w' hb=>ad.below hb;have ba:aA (∀w',C (I (G w)) w w'->Ln w' d b):=fun w' hb=>ag.below hb;have bb:aA (∀nd∈b,L nd.2<=100000):=S;clear W ab ad ag S;go_enter func24,ntmps24;go_wp2_with fail;refine P.mono ?_;clear P;rintro e w1 ⟨rfl,l⟩
 have bd:=n.trans (l.mono aa)
 have be:=l.size;rw[ai] at be;have al:=(l.cell (p:=av (I (G w)) 1) (by show I (G w)<_;omega)).trans k0;have am:=(l.cell (p:=av (I (G w)+1) 1) (by show I (G w)+1<_;omega)).trans k1;clear n k0 k1 ai l;go_wp2_with fail
 go_loopw [5] (fun iv wr=>∃j:Nat,j<=L b/\iv=ak j/\C (I (G w1)) w1 wr) (fun iv _=>L b-M (bN iv))
 case atStart=>exact⟨0,a5 _,rfl,aH _ _⟩
 case round=>
  obtain⟨j,br,rfl,hb⟩:=hrel;have bg:=hb.size;have v:=bd.trans (hb.mono aa)
  have x:=(hb.cell (p:=av (I (G w)) 1) (by show I (G w)<_;omega)).trans al;have y1:=(hb.cell (p:=av (I (G w)+1) 1) (by show I (G w)+1<_;omega)).trans am;have bi:I (G w)<I (G wr):=aa;have bl:I (G w)+1<I (G wr):=aa;by_cases o:j<L b
  ·obtain⟨b1,o1,an,ao,bn,l1,q,s,B⟩:=(a4.o wr v).at o;obtain⟨b2,m,ap,ar,bo,l2,t,u,F⟩:=(ba.o wr v).at o;subst bn bo;have aB:L (X b j (0,[])).2<=100000:=bb.o _ (by rw[aL,aN o];exact a9 o)
   generalize (X b j (0,[])).1=kd at q t;generalize (X b j (0,[])).2=N at s B u F aB;have j0:(0:Int)<=(j:Int):=aa;have bs:(j:Int)<(L b:Int):=aa;have hd:=(ax wr).drew;have P:=xZ an ap ao ar N wr.drew aB (B.below hd) (F.below hd)
   clear B F al am;go_wp2_with fail
   go_region_held3 (fun w'=>V w' (av (I (G w)) 1)=Z (H (Z ⟨b1,o1,Y⟩) (L b) i)/\V w' (av (I (G w)+1) 1)=Z (H (Z ⟨b2,m,Y⟩) (L b) k)/\V w' (av b1 (o1+j*2))=Z (ak kd)/\V w' (av b1 (o1+j*2+1))=Z (H an (L N) ao)/\V w' (av b2 (m+j*2))=Z (ak kd)/\V w' (av b2 (m+j*2+1))=Z (H ap (L N) ar)) (first|exact⟨x,y1,q,s,t,u⟩|exact⟨u0,aF,aR,aV,a0,a1⟩|go_keep)
    (first|(go_at_call 63;refine P.mono ?_;rintro e a2 ⟨rfl,a3⟩;have f:C (I (G wr)) wr a2:=hd.trans a3;have u0:=(f.cell (p:=av (I (G w)) 1) bi).trans x;have aF:=(f.cell (p:=av (I (G w)+1) 1) bl).trans y1;have aR:=(f.cell (p:=av b1 (o1+j*2)) l1).trans q;have aV:=(f.cell (p:=av b1 (o1+j*2+1)) l1).trans s;have a0:=(f.cell (p:=av b2 (m+j*2)) l2).trans t;have a1:=(f.cell (p:=av b2 (m+j*2+1)) l2).trans u))
   have bp:C (I (G w1)) w1 a2:=hb.trans (f.mono bg)
   clear P u0 aF aR aV a0 a1 x y1 q s t u f a3 hd;go_wp2_with fail;go_roundw
   case rel=>exact⟨j+1,aa,aj,bp⟩
   case measure=>simp[bN];omega
  ·obtain rfl:j=L b:=aa;go_wp2_with fail;go_ret;exact⟨rfl,v⟩
theorem x5 (z:bD)(n:Nat)(hz:z.cells.size=2):(Builtin.zeroCells z.cells n).size=n*2:=by rw[size_zeroCells,hz]
theorem Ed (w:az)(n:Nat)(hn:n<=100000):
 J Ng 243 #[H Y 0 0,ak n] w fun e w'=>∃a1 c1,e=M6 (H a1 0 c1)/\aC w' (I (G w)) 103 2 (H a1 0 c1) 0 []/\C (I (G w)) w w':=by
 obtain⟨c,hi,d,f,i⟩:=bV oq;rcases Ck n with h0|h0
 ·subst h0;go_enter func243,ntmps243;go_wp2;go_ret;exact⟨Y,0,rfl,bf _ _ _ _,aH _ _⟩
 ·have hr:=Lib.run_append_nil_zeros (P:=Ng) w 151 3 151 103 c _ M4 M4 underlying151 underlying3 hi d n h0 (by rw[f];decide) aa (by rw[i];omega)
  have j:=grownCap_ge w n 0 103;have b:=grownCap_le_maxLen w n 0 103 (by unfold bW;omega)
  generalize grownCap w n 0 103=g at hr j b;have hown:aC (bj w.drew (R (Builtin.zeroCells (Value.agg #[U M4 0,U M4 0]).cells n++Builtin.zeroCells (Value.agg #[U M4 0,U M4 0]).cells (g-n)) 103)) (I (G w)) 103 2 (H (Z ⟨I (G w),0,Y⟩) 0 g) 0 []:=
   World.ownsRow_made w.drew _ g b8 b (by rw[Array.size_append,x5 _ _ rfl,x5 _ _ rfl];omega)
  have hb:C (I (G w)) w (bj w.drew (R (Builtin.zeroCells (Value.agg #[U M4 0,U M4 0]).cells n++Builtin.zeroCells (Value.agg #[U M4 0,U M4 0]).cells (g-n)) 103)):=(aH _ w).drew.alloc b8 _;go_enter func243,ntmps243;exact xO
theorem Ee (D:cf->Prop)(f:Nat)(b c:Array bD)(p:cf->Bool)(o:dV f)(w:az)
 (hl:∀(w':az)(e:cf),D e->I (G w)<=I (G w')->(∀k,k<I (G w)->w'.heap[k]?=w.heap[k]?)->J Ng f (b.push (en e)++c) w' fun r u=>r=M6 (bK (p e))/\C (I (G w')) w' u)
 (l:List cf)(ad:Option bG)(cap:Nat)(q:∀e∈l,D e)(hm:L l<=100000)(hp:dA w ad l):
 J Ng 228 #[H ad (L l) cap,.func (.func f) b c] w fun r w'=>C (I (G w)) w w'/\((r=M6 (ak (-1))/\∀e∈l,p e=Nb)\/∃i:Nat,r=M6 (ak i)/\i<L l/\p (X l i (0,0))=Nc/\∀e∈l.take i,p e=Nb):=by
 have v:=hide hl;have x:=hide hp;have B:=hide q;have ag:∀(args:Array bD)(w:az),(callFunc f args).run Ng w=.ok (.enter f args) w:=o;clear hl hp o q;go_enter func228,ntmps228;go_wp2_with fail
 go_loopw [8] (fun iv wr=>∃j:Nat,j<=L l/\iv=ak j/\aA (∀e∈l.take j,p e=Nb)/\C (I (G w)) w wr) (fun iv _=>L l-M (bN iv))
 case atStart=>exact⟨0,a5 _,rfl,by simp[aA,Hid],aH _ _⟩
 case round=>
  obtain⟨j,ai,rfl,m,hb⟩:=hrel;by_cases d:j<L l
  ·obtain⟨al,am,F,an,hc⟩:=x.o.below hb aa;obtain⟨N,S⟩:=hc j d;have n:aA (X l j (0,0)=((X l j (0,0)).1,(X l j (0,0)).2)):=rfl;have hd:D (X l j (0,0)):=B.o _ (by rw[aL,aN d];exact a9 d)
   have hd:D ((X l j (0,0)).1,(X l j (0,0)).2):=hd;obtain⟨g,hg⟩:∃g,g=(X l j (0,0)).1:=⟨_,rfl⟩
   obtain⟨z,hz⟩:∃z,z=(X l j (0,0)).2:=⟨_,rfl⟩
   rw[<-hg] at N hd n;rw[<-hz] at S hd n;clear hc hg hz;subst F;go_wp2_with fail;refine(v.o wr (g,z) hd hb.size hb.block).mono ?_;rintro r w1 ⟨rfl,s⟩
   have t:=hb.trans (s.mono hb.size)
   clear hb s;cases hp:p (g,z)
   ·have W:aA (∀e∈l.take (j+1),p e=Nb):=fun e he=>by
     rw[g9 l j d (0,0),List.mem_append,List.mem_singleton] at he;rcases he with he|he
     ·exact m.o e he
     ·rw[he,n.o];exact hp
    clear hp;go_wp2_with fail;go_roundw;exact⟨j+1,aa,aj,W,t⟩
    simp[bN];omega
   ·have ab:aA (p (X l j (0,0))=Nc):=by show _=_;rw[n.o];exact hp
    clear hp;go_wp2_with fail;go_ret;exact⟨t,aK ⟨j,rfl,d,ab.o,m.o⟩⟩
  ·obtain rfl:j=L l:=aa;rw[bk] at m;go_wp2_with fail;go_ret;exact⟨hb,aM ⟨rfl,m.o⟩⟩
theorem x6 (a b:Option bG)(ca cb:Nat)(l:List (Int×Int))(w:az)(hm:L l<=100000)(ha:dA w a l)(hb:dA w b l):
 J Ng 70 #[H a (L l) ca,H b (L l) cb] w fun e w'=>e=M6 (bK Nc)/\C (I (G w)) w w':=by
 have c:=hide ha;have HB:=hide hb;clear ha hb;go_enter func70,ntmps70;go_wp2
 go_loopw [13] (fun iv wr=>∃j:Nat,j<=L l/\iv=ak j/\C (I (G w)) w wr) (fun iv _=>L l-M (bN iv))
 exact⟨0,a5 _,rfl,aH _ _⟩
 ·
   obtain⟨j,d,rfl,hb⟩:=hrel;by_cases hlt:j<L l
   ·obtain⟨f,g,e0,i,hc⟩:=(c.o.below hb) aa;exact xM
   ·obtain rfl:j=L l:=aa;go_wp2;go_ret;exact⟨rfl,hb⟩
theorem Ef (k:Int)(a b:Option bG)(ca cb:Nat)(l:List (Int×Int))(w:az)(hm:L l<=100000)(ha:dA w a l)(hb:dA w b l):
 J Ng 72 #[bF #[ak k,H a (L l) ca],bF #[ak k,H b (L l) cb]] w fun e w'=>e=M6 (bK Nc)/\C (I (G w)) w w':=by
 have c:=(aw w (R #[U M4 k,H a (L l) ca] 107)).alloc ac (R #[U M4 k,H b (L l) cb] 107)
 have P:=x6 a b ca cb l _ hm (ha.below c) (hb.below c)
 have f:I (G (bj (bj w (R #[U M4 k,H a (L l) ca] 107)) (R #[U M4 k,H b (L l) cb] 107)))=I (G w)+2:=ac;clear ha hb;go_enter func72,ntmps72;go_wp2_with fail;refine P.mono ?_;clear P;rintro e w1 ⟨rfl,d⟩
 go_wp2_with fail;go_ret;exact⟨rfl,(c.trans (d.mono aa))⟩
theorem Eg (n1 m:Option bG)(x B:Nat)(b:List (Int×List (Int×Int)))(w:az)(hl:L b<=100000)(F:∀nd∈b,L nd.2<=100000)(N:Ln w n1 b)(S:Ln w m b):
 J Ng 71 #[H n1 (L b) x,H m (L b) B,.func (.func 72) #[] #[]] w fun e w'=>e=M6 (bK Nc)/\C (I (G w)) w w':=by
 have W:aA (∀w',C (I (G w)) w w'->Ln w' n1 b):=fun w' hb=>N.below hb;have ab:aA (∀w',C (I (G w)) w w'->Ln w' m b):=fun w' hb=>S.below hb;have ad:=hide F;go_enter func71,ntmps71;go_wp2_with fail
 go_loopw [17] (fun iv wr=>∃j:Nat,j<=L b/\iv=ak j/\aA (C (I (G w)) w wr)) (fun iv _=>L b-M (bN iv))
 exact⟨0,a5 _,rfl,aH _ _⟩
 ·
   obtain⟨j,aF,rfl,hb⟩:=hrel;by_cases d:j<L b
   ·obtain⟨b1,o1,f,g,ag,l1,ai,al,o⟩:=(W.o wr hb.o).at d;obtain⟨b2,q,i,k,am,l2,s,t,u⟩:=(ab.o wr hb.o).at d;subst ag am;have v:L (X b j (0,[])).2<=100000:=ad.o _ (by rw[aL,aN d];exact a9 d)
    generalize (X b j (0,[])).1=kd at ai s;generalize (X b j (0,[])).2=c at al o t u v;have n:=aw wr (R #[U M4 kd,H f (L c) g] 107)
    have aR:=(n.cell (p:=av b2 (q+j*2)) l2).trans s;have aV:=(n.cell (p:=av b2 (q+j*2+1)) l2).trans t;have l:=n.alloc ac (R #[U M4 kd,H i (L c) k] 107)
    have an:aA (J Ng 72 #[bF #[ak kd,H f (L c) g],bF #[ak kd,H i (L c) k]] (bj (bj wr (R #[U M4 kd,H f (L c) g] 107)) (R #[U M4 kd,H i (L c) k] 107)) fun e w'=>e=M6 (bK Nc)/\C (I (G w)) w w'):=by
     refine(Ef kd f i g k c _ v (o.below l) (u.below l)).mono ?_;rintro e w' ⟨rfl,ao⟩
     exact⟨rfl,hb.o.trans ((l.trans (ao.mono l.size)).mono hb.o.size)⟩
    have ap:=an.o;go_wp2_with fail;refine ap.mono ?_;rintro e a0 ⟨rfl,ar⟩
    have aB:=hide ar;go_wp2_with fail;go_roundw;exact⟨j+1,aa,aj,aB⟩
    simp[bN];omega
   ·obtain rfl:j=L b:=aa;go_wp2_with fail;go_ret;exact⟨rfl,hb.o⟩
theorem Eh (r1 f n1 d:Option bG)(c1 c2 g i:Nat)(c:List (Int×Int))(b:List (Int×List (Int×Int)))(w:az)(hm:L c<=100000)(hl:L b<=100000)(n:∀nd∈b,L nd.2<=100000)(o:dA w r1 c)(q:dA w f c)(s:Ln w n1 b)(t:Ln w d b):
 J Ng 30 #[bF #[H r1 (L c) c1,H n1 (L b) g],bF #[H f (L c) c2,H d (L b) i]] w fun e w'=>e=M6 (bK Nc)/\C (I (G w)) w w':=by
 have j:=(aw w (R #[H r1 (L c) c1,H n1 (L b) g] 60)).alloc ac (R #[H f (L c) c2,H d (L b) i] 60)
 have k0:V (bj (bj w (R #[H r1 (L c) c1,H n1 (L b) g] 60)) (R #[H f (L c) c2,H d (L b) i] 60)) (av (I (G w)) 1)=Z (H n1 (L b) g):=by simp[go_sem]
 have k1:V (bj (bj w (R #[H r1 (L c) c1,H n1 (L b) g] 60)) (R #[H f (L c) c2,H d (L b) i] 60)) (av (I (G w)+1) 1)=Z (H d (L b) i):=by simp[go_sem]
 have u:I (G (bj (bj w (R #[H r1 (L c) c1,H n1 (L b) g] 60)) (R #[H f (L c) c2,H d (L b) i] 60)))=I (G w)+2:=ac;have P:=x6 r1 f c1 c2 c _ hm (o.below j) (q.below j)
 have m:aA (∀w',C (I (G w)) w w'->_):=fun w' hb=>Eg n1 d g i b w' hl n (s.below hb) (t.below hb)
 go_enter func30,ntmps30;go_wp2_with fail;refine P.mono ?_;rintro e w1 ⟨rfl,k⟩
 have l:=j.trans (k.mono aa)
 have B:=(k.cell (p:=av (I (G w)) 1) (by show I (G w)<_;omega)).trans k0;have F:=(k.cell (p:=av (I (G w)+1) 1) (by show I (G w)+1<_;omega)).trans k1;have v:=m.o w1 l;clear j k0 k1 u k m;go_wp2_with fail;refine v.mono ?_;rintro e N ⟨rfl,x⟩
 go_wp2_with fail;go_ret;exact⟨rfl,(l.trans (x.mono l.size))⟩
def B1:List Int:=fZ (List.replicate 24 0) 0 33 2
def B2:List Int:=fZ B1 3 194 12
theorem e16:gY 16 16 0 0=16:=by decide+kernel
theorem Ei (ws:List Int)(y:Nat)(hd:Int)(k:Nat):L (fZ ws y hd k)=L ws:=by
 induction k with
 |zero=>simp[fZ]
 |succ k b=>simp[fZ,b]
theorem mG (l:List Int)(i j:Nat)(x:Int)(h:i<L l):X (l.set i x) j 0=if i=j then x else X l j 0:=by
 rw[aL,aL,List.getElem?_set];split
 ·rename_i e;subst e;simp
 ·rfl
theorem kl (ws:List Int)(y:Nat)(hd:Int)(k i:Nat)(h:y+k<L ws):X (fZ ws y hd k) i 0=if i=y then hd else if y+1<=i/\i<y+1+k then 2 else X ws i 0:=by
 induction k with
 |zero=>
  rw[fZ,mG _ _ _ _ aa];by_cases e:y=i
  ·rw[aJ e,aJ e.symm]
  ·rw[aI e,aI (fun c=>e c.symm),aI aa]
 |succ k f=>
  rw[fZ,mG _ _ _ _ (by rw[Ei];omega),f aa];by_cases e:y+1+k=i
  ·rw[aJ e,aI aa,aJ aa]
  ·rw[aI e];by_cases b:i=y
   ·rw[aJ b,aJ b]
   ·rw[aI b,aI b];by_cases d:y+1<=i/\i<y+1+k
    ·rw[aJ d,aJ aa]
    ·rw[aI d,aI aa]
theorem Ej (y f:Nat):hB 0 ((y+1+f:Nat):Int) y=Nc:=by simp[hB];omega
theorem x7 {N y g:Nat}{ws:List Int}(hd:Int)(f:Nat)(h:y+f<L ws):ld N (y+1+f) g (fZ ws y hd f) y=hd:=by
 have hi:dw N (y+1+f) g y=Nc:=by unfold dw;rw[Ej];rfl
 unfold ld;rw[aJ hi,bI,kl _ _ _ _ _ h,aJ rfl]
def jd (N y:Nat)(k f:Int):Bool:=decide (hc k f=0/\f+1<=(N:Int)-y)
def iY (N O y g:Nat)(ws:List Int)(a:Int):Bool:=decide (pc (ld N y g ws a)=0/\1+pf (ld N y g ws a)<=gY N y g a-a/\1+pf (ld N y g ws a)<=(O:Int)-g)
theorem pF {N y:Nat}{k f:Int}(h:jd N y k f=Nc):hc k f=0/\f+1<=(N:Int)-y:=by simpa[jd] using h
theorem Ek {N y:Nat}{k f:Int}(h:jd N y k f=Nb):hc k f≠0\/(N:Int)-y<f+1:=by
 have:¬(hc k f=0/\f+1<=(N:Int)-y):=by simpa[jd] using h
 by_cases c:hc k f=0
 ·exact aK aa
 ·exact aM c
theorem pG {N O y g:Nat}{ws:List Int}{a:Int}(h:iY N O y g ws a=Nc):pc (ld N y g ws a)=0/\1+pf (ld N y g ws a)<=gY N y g a-a/\1+pf (ld N y g ws a)<=(O:Int)-g:=by simpa[iY] using h
theorem El {N O y g:Nat}{ws:List Int}{a:Int}(h:iY N O y g ws a=Nb):pc (ld N y g ws a)≠0\/gY N y g a-a<1+pf (ld N y g ws a)\/(O:Int)-g<1+pf (ld N y g ws a):=by
 have:¬(pc (ld N y g ws a)=0/\1+pf (ld N y g ws a)<=gY N y g a-a/\1+pf (ld N y g ws a)<=(O:Int)-g):=by simpa[iY] using h
 by_cases c:pc (ld N y g ws a)=0
 ·exact aK aa
 ·exact aM c
def qP (N y:Nat)(k f:Int):Int:=if jd N y k f=Nc then(y:Int) else-1
def jz (N y:Nat)(k f:Int):Nat:=if jd N y k f=Nc then y+1+M f else y
def ge (N y:Nat)(k f:Int)(ws:List Int):List Int:=if jd N y k f=Nc then fZ ws y (hw k f) (M f) else ws
def nz (N O y g:Nat)(ws:List Int)(a:Int):Int:=if iY N O y g ws a=Nc then((N+g:Nat):Int) else-1
def km (N O y g:Nat)(ws:List Int)(a:Int):Nat:=if iY N O y g ws a=Nc then g+(1+M (pf (ld N y g ws a))) else g
def kn (N O y g:Nat)(ws:List Int)(a:Int):List Int:=if iY N O y g ws a=Nc then nS ws (N+g) ((ws.drop (M a)).take (1+M (pf (ld N y g ws a)))) else ws
theorem Em {p q N O y g:Nat}{ws:List Int}(k f:Int)(w:az)(h:At w p q N O y g ws):
 J Ng 41 #[aq p,ak k,ak f] w fun e w'=>e=M6 (ak (qP N y k f))/\At w' p q N O (jz N y k f) g (ge N y k f ws)/\dj p q w w':=by
 unfold qP jz ge;cases hb:jd N y k f
 ·rw[aI ac,aI ac,aI ac];exact(D3 k f w h (Ek hb)).mono fun e w' b=>⟨b.1,h.below b.2 b8,dj.of b.2⟩
 ·exact D2 k f w h (pF hb).1 (pF hb).2
theorem x8 {p q N O y g:Nat}{ws:List Int}(a:Int)(w:az)(h:At w p q N O y g ws):
 J Ng 165 #[aq p,ak a] w fun e w'=>e=M6 (ak (nz N O y g ws a))/\At w' p q N O y (km N O y g ws a) (kn N O y g ws a)/\dj p q w w':=by
 unfold nz km kn;cases hb:iY N O y g ws a
 ·rw[aI ac,aI ac,aI ac];exact(Ea a w h (El hb)).mono fun e w' b=>⟨b.1,h.below b.2 b8,dj.of b.2⟩
 ·exact D_ a w h (pG hb).1 (pG hb).2.1 (pG hb).2.2
open Go.ChangeShapes Go.WideShapes Go.ChangeAt Go.RowKit Go.Joins Go.Deep W cq
section
variable {P:Program}(w:az)
theorem Ep (base:Nat)(t ty e:bU)(i:TypeInfo)(z:bD)(size bytes:Nat)(ht:P.underlying t=Z (.slice e))(hi:P.info? e=Z i)(hz:i.zero=Z z)
 (l:i.size=size)(o:i.bytes=bytes)(p:z.cells.size=size)(q:0<size)
 (v:bD)(n:Nat)(g:List bD)(k:aC w base e size v n g)
 (ad:Option bG)(m c:Nat)(f:List bD)(hl:f.length=m*size)(s:ad=Y->m=0/\c=0)(S:∀a,ad=Z a->∀j u,f[j]?=Z u->V w (a.add j)=Z u)(x:∀u∈f,u.oneCell'=Nc)
 (B:n+m<=bW)(F:(n+m)*bytes<=140737488355328)(N:base<=I (G w)):
 ∃b d w',(Builtin.append_ #[t,t] ty #[v,.slice ad m c]).run P w=.ok (.slice b (n+m) d) w'/\aC w' base e size (.slice b (n+m) d) (n+m) (g++f)/\w.grownBy w' v.ownBlock/\(Nh (Value.slice b (n+m) d)=Nh v\/Nh (Value.slice b (n+m) d)=Z (I (G w))):=by
 cases ad with
 |some a=>
  obtain⟨W,w',hr,ab,ag,_,ai⟩:=run_append_own_at (P:=P) w base t ty e i z size bytes ht hi hz l o p q v n g k a m c f hl (by grind) x B F N
  grind [eZ]
 |none=>
  obtain⟨rfl,rfl⟩:=s rfl;have hn:=gT (by simpa using hl)
  subst hn;have hr:=run_append_owned_none (P:=P) w base t ty e i size ht hi v n g k;obtain⟨b,d,rfl⟩:=eZ k;exact⟨b,d,w,hr,by grind,⟨rfl,rfl,rfl,aG _,fun _ _ _=>rfl⟩,aM rfl⟩
theorem Er {o:Oper}{a:Act}{K:Act->az->Prop}{Q:Exit->Act->az->Prop}(s x:Operand)(t:bU)
 (ho:o.op=.call {callee:=.builtin .append,args:=#[s,x],argTypes:=#[t,t]})
 (base:Nat)(e:bU)(i:TypeInfo)(z:bD)(size bytes:Nat)(ht:P.underlying t=Z (.slice e))(hi:P.info? e=Z i)(hz:i.zero=Z z)
 (k:i.size=size)(l:i.bytes=bytes)(p:z.cells.size=size)(q:0<size)
 (v:bD)(n:Nat)(g:List bD)(hs:a.eval s=v)(B:aC w base e size v n g)
 (ad:Option bG)(m c:Nat)(f:List bD)(F:a.eval x=.slice ad m c)(hl:f.length=m*size)(N:ad=Y->m=0/\c=0)(S:∀a,ad=Z a->∀j u,f[j]?=Z u->V w (a.add j)=Z u)(W:∀u∈f,u.oneCell'=Nc)
 (ab:n+m<=bW)(ag:(n+m)*bytes<=140737488355328)(ai:base<=I (G w))
 (h:∀b d w',aC w' base e size (.slice b (n+m) d) (n+m) (g++f)->w.grownBy w' v.ownBlock->(Nh (Value.slice b (n+m) d)=Nh v\/Nh (Value.slice b (n+m) d)=Z (I (G w)))->K (a.put o.dst (.slice b (n+m) d)) w'):o.wp P a w K Q:=by
 obtain⟨b,d,w',hr,al,am,an⟩:=Ep (P:=P) w base t o.type e i z size bytes ht hi hz k l p q v n g B ad m c f hl N S W ab ag ai;unfold Oper.wp execOp;simp only [ho,resolve,invoke,builtin,Sem.run_bind,Sem.run_pure,Result.andThen_ok,List.map_toArray,List.map_cons,List.map_nil,hs,F,hr];exact h b d w' al am an
theorem x9 {ops:Array Oper}{k:List Oper}{o:Oper}{a:Act}{Q:Exit->Act->az->Prop}(l:o.guard=Y)(s x:Operand)(t:bU)
 (ho:o.op=.call {callee:=.builtin .append,args:=#[s,x],argTypes:=#[t,t]})
 (base:Nat)(e:bU)(i:TypeInfo)(z:bD)(size bytes:Nat)(ht:P.underlying t=Z (.slice e))(hi:P.info? e=Z i)(hz:i.zero=Z z)
 (p:i.size=size)(q:i.bytes=bytes)(B:z.cells.size=size)(F:0<size)
 (v:bD)(n:Nat)(g:List bD)(hs:a.eval s=v)(N:aC w base e size v n g)
 (ad:Option bG)(m c:Nat)(b:List bD)(S:a.eval x=.slice ad m c)(hl:b.length=m*size)(W:ad=Y->m=0/\c=0)(ab:∀a,ad=Z a->∀j u,b[j]?=Z u->V w (a.add j)=Z u)(ag:∀u∈b,u.oneCell'=Nc)
 (ai:n+m<=bW)(al:(n+m)*bytes<=140737488355328)(am:base<=I (G w))
 (h:∀d f w',aC w' base e size (.slice d (n+m) f) (n+m) (g++b)->w.grownBy w' v.ownBlock->(Nh (Value.slice d (n+m) f)=Nh v\/Nh (Value.slice d (n+m) f)=Z (I (G w)))->wpList P ops Q k (a.put o.dst (.slice d (n+m) f)) w'):wpList P ops Q (o::k) a w:=
 wpList_plain l fun _ an=>Er w s x t ho base e i z size bytes ht hi hz p q B F v n g hs N ad m c b S hl W ab ag ai al am fun d f w' ao ap ar=>(by grind)
end
theorem jb.below {w w':az}{ad:Option bG}{l:List Int}(h:jb w ad l)(hb:C (I (G w)) w w'):jb w' ad l:=
 h.keep hb.size (fun hp z e=>by
  obtain⟨b,o,c,d,_⟩:=h hp
  grind [Below.block])
theorem Es (w:az)(ad:Option bG)(l:List Int)(cap:Nat)(v:Int)(h:jb w ad l)(hm:L l<=100000):
 J Ng 225 #[H ad (L l) cap,ak v] w fun e w'=>∃a:Int,e=M6 (ak a)/\decide (0<=a)=bR l v/\C (I (G w)) w w':=by
 go_enter func225,ntmps225;go_wp2_with fail
 go_loopw [8] (fun iv wr=>∃j:Nat,j<=L l/\iv=ak j/\aA (∀i,i<j->¬X l i 0=v)/\C (I (G w)) w wr) (fun iv _=>L l-M (bN iv))
 exact⟨0,a5 _,rfl,fun i h=>aa,aH _ _⟩
 ·
   obtain⟨j,n,rfl,d,hb⟩:=hrel;by_cases f:j<L l
   ·obtain⟨o,p,k,q,hc⟩:=(hide h).o.below hb aa;have g:=hc j f;subst k;by_cases hv:X l j 0=v
    ·have b:bR l v=Nc:=by rw[bP,<-hv,aL,aN f];exact a9 _
     rw[hv] at g;clear hc;go_wp2;go_ret;exact⟨j,rfl,by rw[b];simp,hb⟩
    ·have m:aA (∀i,i<j+1->¬X l i 0=v):=fun i hi=>by
      by_cases c:i=j
      ·rw[c];exact hv
      ·exact d.o i aa
     generalize X l j 0=u at g hv;clear hc;go_wp2;go_roundw;exact⟨j+1,aa,aj,m,hb⟩
     simp[bN];omega
   ·obtain rfl:j=L l:=aa;have b:bR l v=Nb:=by rw[Bool.eq_false_iff];intro hc;rw[bP] at hc;obtain⟨i,hi,e⟩:=List.mem_iff_getElem.1 hc;exact d.o i hi (by simp[List.getElem?_eq_getElem hi,e])
    go_wp2;go_ret;exact⟨-1,rfl,by rw[b];rfl,hb⟩
theorem x_ (w:az)(ad:Option bG)(l:List Int)(cap:Nat)(v:Int)(h:jb w ad l)(hm:L l<=100000):
 J Ng 177 #[H ad (L l) cap,ak v] w fun e w'=>e=M6 (bK (bR l v))/\C (I (G w)) w w':=by
 go_enter func177,ntmps177;go_wp2_with fail;refine(Es w ad l cap v h hm).mono ?_;rintro e w1 ⟨a,rfl,ha,b⟩
 have c:=hide ha;clear ha;go_wp2;go_ret;exact⟨by rw[<-c.o];rfl,b⟩
def tB (N y g:Nat)(ws:List Int)(x:Int):Bool:=de x&&(bR (eN N y g ws) (cr x)||bR (dM N y g ws) (cr x))
def kq (N y g:Nat)(ws:List Int)(x:Int):Int:=if tB N y g ws x=Nc then cr x else 0
theorem Eu {pw p q N O y g:Nat}{ws:List Int}(x:Int)(w:az)(hc:V w (av pw 0)=Z (aq p))(h:At w p q N O y g ws)(l:L (eN N y g ws)<=100000)(hO:L (dM N y g ws)<=100000):
 J Ng 101 #[aq pw,ak x] w fun e w'=>e=M6 (a8 #[ak (kq N y g ws x),bK (tB N y g ws x)])/\C (I (G w)) w w':=by
 have m:=hide h;have iX:=aT w _ hc;have P:=om x w;cases ha:de x
 ·have c:tB N y g ws x=Nb:=by simp[tB,ha]
  have d:kq N y g ws x=0:=by simp[kq,c]
  rw[c,d];rw[ha] at P;go_enter func101,ntmps101;exact tJ
 ·rw[ha] at P;have c:tB N y g ws x=(bR (eN N y g ws) (cr x)||bR (dM N y g ws) (cr x)):=by simp[tB,ha]
  have d:kq N y g ws x=if(bR (eN N y g ws) (cr x)||bR (dM N y g ws) (cr x))=Nc then cr x else 0:=by unfold kq;rw[c]
  rw[c,d];generalize cr x=v at P;obtain⟨c1,f⟩:∃b,bR (eN N y g ws) v=b:=⟨_,rfl⟩
  obtain⟨c2,i⟩:∃b,bR (dM N y g ws) v=b:=⟨_,rfl⟩
  rw[f,i];have n:=hide f;have o:=hide i;have K:∀w1,C (I (G w)) w w1->J Ng 129 #[aq p] w1 fun e w'=>∃d1 f1 d2 f2,e=M6 (a8 #[H d1 (L (eN N y g ws)) f1,H d2 (L (dM N y g ws)) f2])/\aA (∀w3,C (I (G w')) w' w3->J Ng 177 #[H d1 (L (eN N y g ws)) f1,ak v] w3 fun e w4=>e=M6 (bK c1)/\C (I (G w3)) w3 w4)/\aA (∀w3,C (I (G w')) w' w3->J Ng 177 #[H d2 (L (dM N y g ws)) f2,ak v] w3 fun e w4=>e=M6 (bK c2)/\C (I (G w3)) w3 w4)/\C (I (G w1)) w1 w':=fun w1 hb1=>by
   refine(qO w1 (m.o.below hb1 b8)).mono ?_;rintro e w2 ⟨v1,v2,rfl,j,k,hb2⟩
   obtain⟨d1,f1,rfl⟩:=eZ j;obtain⟨d2,f2,rfl⟩:=eZ k;refine⟨d1,f1,d2,f2,rfl,fun w3 hb3=>?_,fun w3 hb3=>?_,hb2⟩
   ·rw[<-n.o];exact x_ w3 d1 (eN N y g ws) f1 v ((hZ j).below hb3) l
   ·rw[<-o.o];exact x_ w3 d2 (dM N y g ws) f2 v ((hZ k).below hb3) hO
  have HK:=hide K;cases c1
  ·cases c2
   ·simp only [Bool.or_self,Fv,if_false];exact xI
   ·simp only [Bool.false_or,if_true];exact xI
  ·simp only [Bool.true_or,if_true];go_enter func101,ntmps101;go_wp2_with fail;refine P.mono ?_;rintro e w1 ⟨rfl,hb1⟩
   have y1:=(hb1.cell (p:=av pw 0) iX).trans hc;go_wp2_with fail;refine(HK.o w1 hb1).mono ?_;rintro e w2 ⟨d1,f1,d2,f2,rfl,L1,L2,hb2⟩
   have eJ:=hb1.trans (hb2.mono hb1.size)
   go_wp2_with fail;refine(L1.o w2 b9).mono ?_;rintro e w3 ⟨rfl,hb3⟩
   have kj:=eJ.trans (hb3.mono eJ.size)
   go_wp2_with fail;go_ret2;exact⟨rfl,kj⟩
theorem je {N y g:Nat}{ws:List Int}{hi:Int}:∀(k:Nat)(a:Int),L (eU N y g ws hi k a)<=k
 |0,_=>by simp[eU]
 |k+1,a=>by
  have b:=je (N:=N) (y:=y) (g:=g) (ws:=ws) (hi:=hi) k (a+(1+pf (ld N y g ws a)))
  unfold eU;split
  ·split
   ·rw[List.length_cons];omega
   ·simp
  ·simp
section
variable {pw p q N O y g:Nat}{ws:List Int}
theorem ya (x:Int)(w:az)(hc:V w (av pw 0)=Z (aq p))(h:At w p q N O y g ws):
 J Ng 101 #[aq pw,ak x] w fun e w'=>e=M6 (a8 #[ak (kq N y g ws x),bK (tB N y g ws x)])/\C (I (G w)) w w':=
 Eu x w hc h (aU (je _ _) ae) (aU (je _ _) ae)
theorem Ev (x:Int)(w:az)(hc:V w (av pw 0)=Z (aq p))(h:At w p q N O y g ws):
 J Ng 48 #[aq pw,ak x] w fun e w'=>e=M6 (a8 #[ak (if tB N y g ws x=Nc then pk (ld N y g ws (cr x)) else 0),ak (if tB N y g ws x=Nc then pf (ld N y g ws (cr x)) else 0),ak (if tB N y g ws x=Nc then pc (ld N y g ws (cr x)) else 2)])/\C (I (G w)) w w':=by
 have c:=hide h;have d:=aT w _ hc;have P:=ya x w hc h;cases ht:tB N y g ws x
 ·rw[ht] at P;simp only [Fv,if_false];generalize kq N y g ws x=v at P;go_enter func48,ntmps48;go_wp2_with fail;refine P.mono ?_;rintro e w1 ⟨rfl,b⟩
  go_wp2_with fail
  go_ret3
  exact⟨rfl,b⟩
 ·rw[ht] at P;have ev:kq N y g ws x=cr x:=by simp[kq,ht]
  rw[ev] at P;simp only [if_true];generalize cr x=v at P;go_enter func48,ntmps48;go_wp2_with fail;refine P.mono ?_;rintro e w1 ⟨rfl,b⟩
  have y1:=(b.cell (p:=av pw 0) d).trans hc;go_wp2_with fail;refine(gO v w1 (c.o.below b b8)).mono ?_;rintro e j ⟨rfl,f⟩
  have i:=b.trans (f.mono b.size)
  go_wp2_with fail
  go_ret3
  exact⟨rfl,i⟩
def iZ (N y g:Nat)(a f:Int):Int:=min f ((if hB N g a=Nc then(N:Int)+g else(y:Int))-a-1)
theorem yb (a f:Int)(w:az)(hc:V w (av pw 0)=Z (aq p))(h:At w p q N O y g ws)(a0:0<=a)(a1:a<=100000):
 J Ng 171 #[aq pw,ak a,ak f] w fun e w'=>e=M6 (ak (iZ N y g a f))/\C (I (G w)) w w':=by
 have HA:aA (At w p q N O y g ws):=h;have iX:=aT w _ hc;have k1:=h.hN';have c:=h.hy;have d:=h.hO;have i:=h.hg;clear h;unfold iZ;cases ho:hB N g a
 ·simp only [Fv,if_false];by_cases hm:f<=(y:Int)-a-1
  ·rw[Lp hm];have b:¬((y:Int)-a-1<f):=aa;go_enter func171,ntmps171;go_wp2_with fail;refine(lq w HA.o).mono ?_;rintro e w1 ⟨rfl,hb1⟩
   have y1:=(hb1.cell (p:=av pw 0) iX).trans hc;go_wp2_with fail;refine(ny w1 (HA.o.below hb1 b8)).mono ?_;rintro e w2 ⟨rfl,hb2⟩
   have eJ:=hb1.trans (hb2.mono hb1.size)
   have y2:=(eJ.cell (p:=av pw 0) iX).trans hc;clear y1;have P:=nu a w2 (HA.o.below eJ b8)
   rw[ho] at P;go_wp2_with fail;refine P.mono ?_;clear P;rintro e w3 ⟨rfl,hb3⟩
   have kj:=eJ.trans (hb3.mono eJ.size)
   clear y2 hb1 hb2 eJ hb3;go_wp2_with fail;go_ret;exact⟨rfl,kj⟩
  ·rw[MW aa];have b:(y:Int)-a-1<f:=aa;go_enter func171,ntmps171;go_wp2_with fail;refine(lq w HA.o).mono ?_;rintro e w1 ⟨rfl,hb1⟩
   have y1:=(hb1.cell (p:=av pw 0) iX).trans hc;go_wp2_with fail;refine(ny w1 (HA.o.below hb1 b8)).mono ?_;rintro e w2 ⟨rfl,hb2⟩
   have eJ:=hb1.trans (hb2.mono hb1.size)
   have y2:=(eJ.cell (p:=av pw 0) iX).trans hc;clear y1;have P:=nu a w2 (HA.o.below eJ b8)
   rw[ho] at P;go_wp2_with fail;refine P.mono ?_;rintro e w3 ⟨rfl,hb3⟩
   have kj:=eJ.trans (hb3.mono eJ.size)
   go_wp2_with fail;go_ret;exact⟨rfl,kj⟩
 ·simp only [if_true];by_cases hm:f<=(N:Int)+g-a-1
  ·rw[Lp hm];have b:¬((N:Int)+g-a-1<f):=aa;exact xH
  ·rw[MW aa];exact xH
end
end Go.Proofs.YtpkjkjhanlbcoaaGreat
