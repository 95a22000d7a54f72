import Derived.Test.YtjckpdepffejnaaGreatDoorJ01
import Derived.Deep.RegionLaw
import Derived.Deep.AppendLies
import Derived.Lib.AppendZeros
import Derived.Deep.DeepCutAuto
import Derived.Laws.OwnMore
open Array renaming getElem?_modify->bE,size->I
open Bool renaming false->O4,true->C
open Go renaming Addr->bB,Calls->M,TypeId->bI,Value->a7,below_drewN->tF,info_parts->bM,maxLen->bL,splice->lF,wpList_append_own->ui
open Go.Ending renaming returned->OV
open Go.IntKind renaming i64->R
open Go.Obj renaming cells->OX
open Go.Proofs.Tryz renaming prog->J
open Go.RowKit renaming Below->O7,intOf->bG
open Go.Value renaming agg->bz,bool->bA,int->U,ownBlock->A,slice->Z,tuple->ay
open Go.World renaming alloc->bu,cell?->V,frozen?->bF,heap->G,ownsRow->aC
open Int renaming eq_ofNat_of_zero_le->bC,toNat->K,toNat_natCast->bD
open List renaming contains->bJ,contains_iff_mem->bT,eq_nil_of_length_eq_zero->bU,getD->X,getD_eq_getElem?_getD->bR,getElem?_eq_getElem->j5,getElem?_map->iy,length->L
open Nat renaming eq_zero_or_pos->Bi,lt_irrefl->Ls,min->l8,succ_pos->jw
open Option renaming map_some->bH,none->Y,some->OR
namespace Go.Proofs.YtjckpdepffejnaaGreatDoor
set_option maxRecDepth 100000
set_option maxHeartbeats 2000000
open Tryz
open Go.RowKit W
theorem yp {P:Prop}(h:P:=by
 go_enter func229,ntmps229;go_wp2_with fail;refine P.mono ?_;rintro e w1 ⟨rfl,hb1⟩
 have y1:=(hb1.cell (p:=av pw 0) ja).trans hc;go_wp2_with fail;refine(HK.o w1 hb1).mono ?_;rintro e w2 ⟨d1,f1,d2,f2,rfl,L1,L2,hb2⟩
 have eP:=hb1.trans (hb2.mono hb1.size)
 go_wp2_with fail;refine(L1.o w2 bZ).mono ?_;rintro e w3 ⟨rfl,hb3⟩
 have kO:=eP.trans (hb3.mono eP.size)
 go_wp2_with fail;refine(L2.o w3 hb3).mono ?_;rintro e w4 ⟨rfl,hb4⟩
 have EC:=kO.trans (hb4.mono kO.size)
 go_wp2_with fail;go_ret2;exact⟨rfl,EC⟩):P:=h
theorem yq {P:Prop}(h:P:=by go_wp2_with fail;refine a3 (results_none rfl _ _ _) rfl ?_;have e2:=A5.o;rw[E1.o,List.append_nil] at e2;rw[<-e2];exact⟨rfl,v,(eP.block c (cj CC.o)).trans CC.o,pb (ng hown eP) aa,⟨(hS.trans (fj.of eP hsz)).os,(hS.trans (fj.of eP hsz)).tape,(hS.trans (fj.of eP hsz)).output,by have:=(hS.trans (fj.of eP hsz)).size;simp at this;omega,λk hk h1=>((hS.trans (fj.of eP hsz)).block k aa h1).trans (aU _ _ _ hk)⟩⟩):P:=h
theorem ys {P:Prop}(h:P:=by refine bodyPost_end (results_none rfl _ _ _) rfl ?_;have e2:=A5.o;rw[yt k aa,List.append_nil] at e2;rw[<-e2];exact⟨rfl,v,(hb1.block c (cj CC.o)).trans CC.o,pb (ng hown hb1) aa,⟨(hS.trans (fj.of hb1 hsz)).os,(hS.trans (fj.of hb1 hsz)).tape,(hS.trans (fj.of hb1 hsz)).output,by have:=(hS.trans (fj.of hb1 hsz)).size;simp at this;omega,λk hk h1=>((hS.trans (fj.of hb1 hsz)).block k aa h1).trans (aU _ _ _ hk)⟩⟩):P:=h
theorem yu {P:Prop}(h:P:=by obtain⟨d0,d1,d2,f0,f1,f2,hz⟩:=cells3 hb1;obtain⟨c0,c1,c2,c3,c4,c5,c6⟩:=((h.alloc _).below hb1 bY).cells;go_wp2_with fail;exact a3 (by simp[results,results308,go_sem,d0,d1,d2]) rfl ⟨rfl,((((bZ.alloc bY _).trans (hb1.mono ac)).setCell bY _).setCell bY _).setCell bY _⟩):P:=h
theorem qt {P:Prop}(h:P:=by
 rintro e w1 ⟨rfl,hb1⟩
 go_wp2_with fail;go_ret;exact⟨rfl,hb1⟩):P:=h
theorem uH {P:Prop}(h:P:=by
 go_wp2_with fail;refine P.mono ?_;rintro e w1 ⟨rfl,hb1⟩
 go_wp2_with fail;go_ret2;exact⟨rfl,hb1⟩):P:=h
theorem yx {P:Prop}(h:P:=by
 go_wp2_with (at_builtin;refine Lib.wpList_append_run _ rfl _ _ _ _ rfl _ _ rfl rfl _ _ hr ?_)
 go_wp2;go_ret;exact⟨_,_,rfl,hown,hb⟩):P:=h
def gs (ws:List Int)(y:Nat)(hd:Int):Nat->List Int
 |0=>ws.set y hd
 |k+1=>(gs ws y hd k).set (y+1+k) 2
theorem bc (n:Int):Go.IntKind.i64.wrap n = (n + 9223372036854775808) % 18446744073709551616 - 9223372036854775808:=IntKind.wrap_i64 ..
theorem ED {p q N O y g:Nat}{ws:List Int}(k f:Int)(w:az)(h:At w p q N O y g ws)(hk:hc k f=0)(hr:f+1<=(N:Int)-y):
 M J 279 #[aq p,ak k,ak f] w λe w'=>e=OV (ak y)/\At w' p q N O (y+1+K f) g (gs ws y (hw k f) (K f))/\dl p q w w':=by
 obtain⟨_,_,t,u⟩:=jK k f hk;obtain⟨f,rfl⟩:=bC t;simp only [bD];have H:aA (hc k f=0):=hk;clear hk;have k1:=h.hN';have k2:=h.hy;have k3:=h.hO;have k4:=h.hg;go_enter func279,ntmps279;go_wp2_with fail;refine(qj k f _).mono ?_;rintro e w1 ⟨rfl,rfl⟩
 rw[H.o];obtain⟨c0,c1,c2,c3,d,l,m⟩:=h.cells;go_wp2_with fail;refine(Ev (1+f) _ h aa aa).mono ?_;rintro e v ⟨rfl,b,s2⟩
 rw[show K (1+(f:Int))=1+f by omega] at b;obtain⟨c0,c1,c2,c3,d,l,m⟩:=b.cells;have n:=b.word y aa;have o:=b.uC y;have b1:(y:Int)<((N+O:Nat):Int):=aa;go_wp2_with fail
 go_loopw [39] (λi wr=>∃j:Nat,j<=f/\i=ak j/\At wr p q N O (y+(1+f)) g (gs ws y (hw k f) j)/\dl p q w1 wr) (λi _=>f-K (bG i))
 case atStart=>exact⟨0,a4 _,rfl,b.set y _,s2.trans (dl.uB _ _)⟩
 case round=>
  obtain⟨j,x,rfl,c,s⟩:=hrel;clear c0 c1 c2 c3 d l m n o;obtain⟨c0,c1,c2,c3,d,l,m⟩:=c.cells;by_cases B:j<f
  ·have n:=c.word (y+1+j) aa;have o:=c.uC (y+1+j)
   have b2:(y:Int)+1+j<((N+O:Nat):Int):=aa;go_wp2_with fail;have b3:(0:Int)<=(y:Int)+1+j:=aa;have b4:K ((y:Int)+1+j)=y+1+j:=aa;have b5:(y:Int)+1+j<(N:Int)+O:=aa;have b6:IntKind.i64.wrap ((y:Int)+1)=(y:Int)+1:=by rw[bc];omega
   have F:IntKind.i64.wrap ((y:Int)+1+j)=(y:Int)+1+j:=by rw[bc];omega
   go_region_with (go_at_call 156;refine(uz _).mono ?_;rintro e S ⟨rfl,rfl⟩)
   all_goals
    go_wp2_with fail;go_roundw
    case rel=>exact⟨j+1,aa,aj,c.drew.set _ _,s.drew.trans (dl.uB _ _)⟩
    case measure=>simp[bG];omega
  ·go_wp2_with fail;go_ret;have e:j=f:=aa;subst e;exact⟨rfl,by rw[Nat.add_assoc];exact c,s⟩
theorem EE {p q N O y g:Nat}{ws:List Int}(k f:Int)(w:az)(h:At w p q N O y g ws)(hk:hc k f≠0\/(N:Int)-y<f+1):
 M J 279 #[aq p,ak k,ak f] w λe w'=>e=OV (ak (-1))/\O7 (I (G w)) w w':=by
 by_cases c:hc k f=0
 ·obtain⟨_,_,b,d⟩:=jK k f c;go_enter func279,ntmps279;go_wp2_with fail;refine(qj k f _).mono ?_;rintro e w1 ⟨rfl,rfl⟩
  rw[(cg c).o];obtain⟨c0,c1,c2,c3,i,j,l⟩:=h.cells;go_wp2_with fail;refine(Ew (1+f) _ h aa).mono ?_;rintro e m ⟨rfl,hb⟩
  go_wp2;go_ret;exact⟨rfl,hb⟩
 ·go_enter func279,ntmps279;go_wp2_with fail;refine(qj k f _).mono ?_;rintro e w1 ⟨rfl,rfl⟩
  go_wp2;go_ret;exact⟨rfl,aH _ _⟩
theorem EF {p q N O y g:Nat}{ws:List Int}(a n:Int)(w:az)(h:At w p q N O y g ws)(h0:0<=a)(b:0<=n)(c:a+n<=(N:Int)+O):
 M J 307 #[aq p,ak a,ak n] w λe w'=>e=OV (bA C)/\w'=w:=by
 obtain⟨c0,c1,c2,c3,d,f,i⟩:=h.cells;have k1:=h.hN';have k3:=h.hO;go_wp2;go_ret;exact⟨by simp;omega,rfl⟩
def mL (w w':az)(g:Nat)(c:List a7)(d:Nat)(b:List a7):Prop:=
 (b=[]/\w'=w)\/w'=w.setRow g (lF c d b).toArray
theorem rR {P:Program}{ops:Array Oper}{o:Oper}{a:Act}{w:az}{K:Act->az->Prop}{Q:Exit->Act->az->Prop}{E:Prop}(B:o.guard=Y)(d s:Operand)(c m e:bI)
 (ho:o.op=.call {callee:=.builtin .copy,args:=#[d,s],argTypes:=#[c,m]})(u:P.underlying c=OR (.slice e))(x:(P.info? e).map (·.size)=OR 1)
 (n sp:Option bB)(f p i q:Nat)(hd:a.eval d=Z n f p)(hs:a.eval s=Z sp i q)
 (g k:Nat)(l:List a7)(t:bI)(hg:w.heap[g]?=OR (OX l.toArray t (0,0)))(b:List a7)(hn:L b=l8 i f)
 (F:0<L b->n=OR ⟨g,k,Y⟩/\∃ad,sp=OR ad/\∀j v,b[j]?=OR v->V w (ad.add j)=OR v)
 (N:k+L b<=L l)(S:∀v∈b,v.oneCell'=C)
 (h:∀w',mL w w' g l k b->K (a.put o.dst (goInt (L b))) w'):
 if Region.wanted o (yielded ops a.tmps)=C then Oper.wp P o a w K Q else E:=by
 rw[aN (show Region.wanted o (yielded ops a.tmps)=C by simp[Region.wanted,B])];rcases Bi (L b) with h0|h0
 ·have W:=bU h0;subst W;unfold Oper.wp;simp[execOp,ho,resolve,invoke,builtin,hd,hs,(run_copy_none (P:=P) w c m o.type e n sp f p i q u x aa),Result.andThen];exact h w (aK ⟨rfl,rfl⟩)
 ·obtain⟨ab,ad,es,ag⟩:=F h0;subst ab es;unfold Oper.wp;simp[execOp,ho,resolve,invoke,builtin,hd,hs,(run_copy_row (P:=P) w c m o.type e g k f p ad i q l.toArray t b u x hg hn ag (by simpa using N) S),Result.andThen];exact h _ (aI (by simp[lF]))
theorem uI:(prog.info? 2).map (·.size)=OR 1:=ah
theorem qu (l:List Int):∀v∈l.map (Value.int R),v.oneCell'=C:=by intro v hv;obtain⟨x,_,rfl⟩:=List.mem_map.1 hv;rfl
theorem uJ (ws b:List Int)(t:Nat):lF (ws.map (Value.int R)) t (b.map (Value.int R))=(lF ws t b).map (Value.int R):=by simp[lF,List.map_take,List.map_drop]
theorem At.moved {w w':az}{p q N O y g:Nat}{ws b:List Int}{t:Nat}(h:At w p q N O y g ws)(hm:mL w w' q (ws.map (Value.int R)) t (b.map (Value.int R)))(c:t+L b<=N+O):
 At w' p q N O y g (lF ws t b)/\dl p q w w':=by
 rcases hm with⟨e,rfl⟩|rfl
 ·have d:b=[]:=by simpa using e
  subst d;have f:lF ws t []=ws:=by simp[lF]
  rw[f];exact⟨h,dl.refl _ _ _⟩
 ·rw[uJ];exact⟨h.row (by rw[length_splice _ _ _ ((h.hl▸c))];exact h.hl),dl.El _⟩
theorem At.src {w:az}{p q N O y g:Nat}{ws:List Int}(h:At w p q N O y g ws)(f n:Nat)(e:f+n<=N+O)(j:Nat)(v:a7)(hv:(((ws.drop f).take n).map (Value.int R))[j]?=OR v):
 V w ((⟨q,f,Y⟩:bB).add j)=OR v:=by
 rw[iy] at hv;obtain⟨x,b,rfl⟩:=Option.map_eq_some_iff.1 hv;have c:=(List.getElem?_eq_some_iff.1 b).1;have d:j<n:=by simp at c;omega
 have:=h.word (f+j) aa;rw[show((⟨q,f,Y⟩:bB).add j)=⟨q,f+j,Y⟩ by simp[Addr.add],this];rw[List.getElem?_take_of_lt d,List.getElem?_drop] at b;simp[bR,b]
theorem a5 {α:Type _}{β:Type _}{«as»:List α}(f:α -> β):L (List.map f «as») = «as».length:=List.length_map ..
theorem yy {p q N O y g:Nat}{ws:List Int}(t f n:Nat)(w:az)(b:At w p q N O y g ws)(u:t+n<=N+O)(i:f+n<=N+O):
 M J 273 #[aq p,ak t,ak f,ak n] w λe w'=>e=OV (ay #[])/\At w' p q N O y g (lF ws t ((ws.drop f).take n))/\dl p q w w':=by
 obtain⟨c0,c1,c2,c3,x,B,F⟩:=b.cells;have k1:=b.hN';have k3:=b.hO;have hl:=b.hl;have b1:IntKind.i64.wrap ((t:Int)+n)=(t:Int)+n:=by rw[bc];omega
 have b2:IntKind.i64.wrap ((f:Int)+n)=(f:Int)+n:=by rw[bc];omega
 have b3:(t:Int)+n<=(N:Int)+O:=aa;have b4:(f:Int)+n<=(N:Int)+O:=aa;have b5:K ((t:Int)+n)=t+n:=aa;have b6:K ((f:Int)+n)=f+n:=aa;have S:(0:Int)<=(t:Int)+n:=aa;have W:(0:Int)<=(f:Int)+n:=aa;have hlen:L ((ws.drop f).take n)=n:=by simp;omega
 have k:aA (L (((ws.drop f).take n).map (Value.int R))=l8 n n):=by show _=_;rw[a5,hlen];simp
 have l:aA (0<L (((ws.drop f).take n).map (Value.int R))->(if N+O=t then OR (⟨q,0,Y⟩:bB) else OR ⟨q,t,Y⟩)=OR ⟨q,t,Y⟩/\∃ad,(if N+O=f then OR (⟨q,0,Y⟩:bB) else OR ⟨q,f,Y⟩)=OR ad/\∀j v,(((ws.drop f).take n).map (Value.int R))[j]?=OR v->V w.drew (ad.add j)=OR v):=by intro m;rw[a5,hlen] at m;rw[aJ aa,aJ aa];exact⟨rfl,_,rfl,λj v hv=>b.drew.src f n i j v hv⟩
 have o:aA (t+L (((ws.drop f).take n).map (Value.int R))<=L (ws.map (Value.int R))):=by show _<=_;rw[a5,a5,hlen];omega
 clear hlen hl;go_enter func273,ntmps273;go_wp2_with (go_at_call 307;refine(EF _ _ _ b ?_ ?_ ?_).mono ?_;omega;omega;omega;rintro e w1 ⟨rfl,hw⟩;have hw:=hw.symm;subst hw)
 go_region_law (refine rR rfl (.tmp 26) (.tmp 35) 66 66 2 rfl underlying66 uI (if N+O=t then au q else OR ⟨q,t,Y⟩) (if N+O=f then au q else OR ⟨q,f,Y⟩) n (N+O-t) n (N+O-f) ?_ ?_ q t (ws.map (Value.int R)) 2 b.drew.hq (((ws.drop f).take n).map (Value.int R)) k.o l.o o.o (qu _) ?_;(first|rfl|simp[Act.eval,Act.put]);(first|rfl|simp[Act.eval,Act.put]);intro ab c;obtain⟨d,s⟩:=b.drew.moved c (by simp;omega);clear c)
 all_goals go_wp2_with fail
 all_goals
  go_end0;refine⟨rfl,?_,(dl.refl _ _ _).drew.trans s⟩
  first
   |exact d
   |(
    have e:t=f:=aa;subst e;exact d)
theorem rS (x:Int)(h:pc x=0):0<=pf x/\pf x<=12:=by have:=jK _ _ (D7 x h).1;omega
theorem EG:pc 0=7:=by decide+kernel
theorem yz {N y g:Nat}{ws:List Int}{a:Int}(h:pc (ld N y g ws a)=0):dB N y g a=C:=by
 cases hi:dB N y g a
 ·have e:ld N y g ws a=0:=by simp[ld,hi]
  rw[e,EG] at h;omega
 ·rfl
def ia (N y g:Nat)(a:Int):Int:=if hB 0 y a=C then(y:Int) else(N:Int)+g
theorem cells3 {w w1:az}{a b c:a7}{t:bI}(hb:O7 (I (G (bu w (OX #[a,b,c] t)))) (bu w (OX #[a,b,c] t)) w1):
 V w1 (av (I (G w)) 0)=OR a/\V w1 (av (I (G w)) 1)=OR b/\V w1 (av (I (G w)) 2)=OR c/\bF w1 (av (I (G w)) 0)=O4/\bF w1 (av (I (G w)) 1)=O4/\bF w1 (av (I (G w)) 2)=O4/\I (G w)<I (G w1):=by
 obtain⟨hc,d⟩:=uy hb;have hz:=hb.size;refine⟨?_,?_,?_,?_,?_,?_,by simp at hz;omega⟩
 ·rw[hc _ _ ac];simp[go_sem]
 ·rw[hc _ _ ac];simp[go_sem]
 ·rw[hc _ _ ac];simp[go_sem]
 ·rw[d _ _ ac];simp[go_sem]
 ·rw[d _ _ ac];simp[go_sem]
 ·rw[d _ _ ac];simp[go_sem]
theorem EH {p q N O y g:Nat}{ws:List Int}(a:Int)(w:az)(h:At w p q N O y g ws)(hy:hB 0 y a=C):
 M J 308 #[aq p,ak a] w λe w'=>e=OV (bz #[ak 0,ak N,ak y])/\O7 (I (G w)) w w':=by
 go_enter func308,ntmps308;go_wp2_with fail;refine(n6 a _ (h.alloc _)).mono ?_;rintro e w1 ⟨rfl,hb1⟩
 rw[(cg hy).o];exact yu
theorem EI {p q N O y g:Nat}{ws:List Int}(a:Int)(w:az)(h:At w p q N O y g ws)(hy:hB 0 y a=O4):
 M J 308 #[aq p,ak a] w λe w'=>e=OV (bz #[ak N,ak O,ak g])/\O7 (I (G w)) w w':=by
 have b:=cg hy;clear hy;go_enter func308,ntmps308;go_wp2_with fail;refine(n6 a _ (h.alloc _)).mono ?_;rintro e w1 ⟨rfl,hb1⟩
 rw[b.o];exact yu
theorem uK {p q N O y g:Nat}{ws:List Int}(a:Int)(w:az)(h:At w p q N O y g ws):∃b s u:Int,0<=b/\b<=100000/\0<=u/\u<=100000/\b+u=ia N y g a/\
 M J 308 #[aq p,ak a] w λe w'=>e=OV (bz #[ak b,ak s,ak u])/\O7 (I (G w)) w w':=by
 have k1:=h.hN';have k2:=h.hy;have k3:=h.hO;have k4:=h.hg;cases hy:hB 0 y a
 ·exact⟨N,O,g,aa,aa,aa,aa,by simp[ia,hy],EI a w h hy⟩
 ·exact⟨0,N,y,aa,aa,aa,aa,by simp[ia,hy],EH a w h hy⟩
theorem EJ {N O y g:Nat}{a:Int}(hN:N<=256)(hO:O<=1024)(hy:y<=N)(hg:g<=O):0<=ia N y g a/\ia N y g a<=1280:=by unfold ia;split<;>omega
theorem EK {p q N O y g:Nat}{ws:List Int}(a:Int)(w:az)(h:At w p q N O y g ws)(hp:pc (ld N y g ws a)=0)(hr:1+pf (ld N y g ws a)<=ia N y g a-a)(hg:1+pf (ld N y g ws a)<=(O:Int)-g):
 M J 276 #[aq p,ak a] w λe w'=>e=OV (ak (N+g:Nat))/\At w' p q N O y (g+(1+K (pf (ld N y g ws a)))) (lF ws (N+g) ((ws.drop (K a)).take (1+K (pf (ld N y g ws a)))))/\dl p q w w':=by
 obtain⟨c,o⟩:=rS _ hp;obtain⟨t,ag⟩:=ku (yz hp) h.hy h.hg;have k2:=h.hy;have k3:=h.hO;have k4:=h.hg;have k5:=@EJ N O y g a h.hN' k3 k2 k4;have k6:ia N y g a<=(N:Int)+O:=by unfold ia;split<;>omega
 have v:=cg hp;clear hp;obtain⟨a,rfl⟩:=bC t;rw[bD];obtain⟨n,hn⟩:=bC c;have x:=cg hn;rw[hn] at hr hg o c⊢;clear hn;rw[bD];go_enter func276,ntmps276;go_wp2_with fail;refine(hC a _ h).mono ?_;rintro e w1 ⟨rfl,d⟩
 rw[v.o,x.o];have f:=h.below d bY
 go_wp2_with fail;obtain⟨b,s,u,B,F,S,W,i,hc⟩:=uK a w1 f;refine hc.mono ?_;rintro e ai ⟨rfl,j⟩
 clear hc;go_wp2_with fail;refine(nf b s u _ B F S W).mono ?_;rintro e al ⟨rfl,k⟩
 have ab:=cg i;clear i;rw[ab.o];have l:=(f.below j bY).below k bY
 obtain⟨c0,c1,c2,c3,am,an,ao⟩:=l.cells;go_wp2_with fail;refine(Ex (1+n) _ l aa aa).mono ?_;rintro e ap ⟨rfl,m,s4⟩
 rw[show K (1+(n:Int))=1+n by omega] at m;go_wp2_with fail;rw[show(1+(n:Int))=((1+n:Nat):Int) by omega];refine(yy (N+g) a (1+n) _ m aa aa).mono ?_;rintro e ar ⟨rfl,ad,s5⟩
 go_wp2_with fail;go_ret;exact⟨rfl,ad,(((dl.of d).trans (dl.of j)).trans (dl.of k)).trans (s4.trans s5)⟩
theorem EL {p q N O y g:Nat}{ws:List Int}(a:Int)(w:az)(h:At w p q N O y g ws)(v:pc (ld N y g ws a)≠0\/ia N y g a-a<1+pf (ld N y g ws a)\/(O:Int)-g<1+pf (ld N y g ws a)):
 M J 276 #[aq p,ak a] w λe w'=>e=OV (ak (-1))/\O7 (I (G w)) w w':=by
 by_cases hp:pc (ld N y g ws a)=0
 ·obtain⟨W,ab⟩:=rS _ hp;have hi:=yz hp;obtain⟨ad,ag⟩:=ku hi h.hy h.hg;have k1:=h.hN';have k2:=h.hy;have k3:=h.hO;have k4:=h.hg;have ai:ia N y g a-a<1+pf (ld N y g ws a)\/(O:Int)-g<1+pf (ld N y g ws a):=by
   rcases v with e|e
   ·exact absurd hp e
   ·exact e
  have o:=cg hp;by_cases hr:ia N y g a-a<1+pf (ld N y g ws a)
  ·go_enter func276,ntmps276;go_wp2_with fail;refine(hC a _ h).mono ?_;rintro e w1 ⟨rfl,hb1⟩
   rw[o.o];have f:=h.below hb1 bY
   go_wp2_with fail;obtain⟨b,s,u,i,j,k,l,m,hc⟩:=uK a w1 f;refine hc.mono ?_;rintro e x ⟨rfl,c⟩
   go_wp2_with fail;refine(nf b s u _ i j k l).mono ?_;rintro e B ⟨rfl,d⟩
   have n:=cg m;rw[n.o];go_wp2_with fail;go_ret;exact⟨rfl,(hb1.trans (c.mono hb1.size)).trans (d.mono (aQ hb1.size c.size))⟩
  ·go_enter func276,ntmps276;go_wp2_with fail;refine(hC a _ h).mono ?_;rintro e w1 ⟨rfl,hb1⟩
   rw[o.o];have f:=h.below hb1 bY
   go_wp2_with fail;obtain⟨b,s,u,i,j,k,l,m,hc⟩:=uK a w1 f;refine hc.mono ?_;rintro e x ⟨rfl,c⟩
   have F:=f.below c bY
   go_wp2_with fail;refine(nf b s u _ i j k l).mono ?_;rintro e B ⟨rfl,d⟩
   have n:=cg m;rw[n.o];have t:=F.below d bY
   obtain⟨c0,c1,c2,c3,al,am,an⟩:=t.cells;go_wp2_with fail;refine(Ey _ _ t aa).mono ?_;rintro e ao ⟨rfl,S⟩
   go_wp2_with fail;go_ret;exact⟨rfl,((hb1.trans (c.mono hb1.size)).trans (d.mono (aQ hb1.size c.size))).trans (S.mono (aQ hb1.size (aQ c.size d.size)))⟩
 ·go_enter func276,ntmps276;go_wp2_with fail;refine(hC a _ h).mono ?_;exact qt
structure fj (B c:Nat)(w w':az):Prop where
 os:w'.os=w.os
 tape:w'.tape=w.tape
 output:w'.output=w.output
 size:I (G w)<=I (G w')
 block:∀k,k<B->k≠c->w'.heap[k]?=w.heap[k]?
theorem fj.refl (B c:Nat)(w:az):fj B c w w:=⟨rfl,rfl,rfl,aG _,λ_ _ _=>rfl⟩
theorem fj.trans {B c:Nat}{a b d:az}(h:fj B c a b)(k:fj B c b d):fj B c a d:=
 ⟨k.os.trans h.os,k.tape.trans h.tape,k.output.trans h.output,aQ h.size k.size,λi hi e=>(k.block i hi e).trans (h.block i hi e)⟩
theorem fj.of {B D c:Nat}{w w':az}(h:O7 D w w')(hD:B<=D):fj B c w w':=⟨h.os,h.tape,h.output,h.size,λk hk _=>h.block k aa⟩
theorem fj.below {B D c:Nat}{w w':az}(h:fj B c w w')(hD:D<=B)(hc:D<=c):O7 D w w':=⟨h.os,h.tape,h.output,h.size,λk hk=>h.block k aa aa⟩
theorem ng {w w':az}{base n:Nat}{e:bI}{v:a7}{l:List a7}(h:aC w base e 1 v n l)(hb:O7 (I (G w)) w w'):aC w' base e 1 v n l:=by
 obtain⟨f,c⟩:=h;refine⟨f,?_⟩
 rcases c with c|⟨b,cap,g,hv,i,d,r⟩
 ·exact aK c
 ·exact aI ⟨b,cap,g,hv,i,(hb.block b (cj d)).trans d,r⟩
theorem pb {w:az}{base base' n:Nat}{e:bI}{v:a7}{l:List a7}(h:aC w base e 1 v n l)(hb:base'<=base):aC w base' e 1 v n l:=by
 obtain⟨d,c⟩:=h;refine⟨d,?_⟩
 rcases c with c|⟨b,cap,f,hv,g,r⟩
 ·exact aK c
 ·exact aI ⟨b,cap,f,hv,aa,r⟩
theorem yA {w w':az}{base B c n:Nat}{e:bI}{v:a7}{l:List a7}(h:aC w base e 1 v n l)(hs:fj B c w w')(hB:I (G w)<=B)(hc:c<base):aC w' base e 1 v n l:=by
 obtain⟨g,d⟩:=h;refine⟨g,?_⟩
 rcases d with d|⟨b,cap,i,hv,j,f,r⟩
 ·exact aK d
 ·exact aI ⟨b,cap,i,hv,j,(hs.block b (by have:=cj f;omega) aa).trans f,r⟩
theorem l6:(prog.info? 3).map (λi=>(i.zero,i.size,i.bytes))=OR (OR (ak 0),1,8):=ah
theorem yC {w:az}{base n c:Nat}{e:bI}{v:a7}{l:List a7}(h:aC w base e 1 v n l)(hc:c<base):OR c≠A v:=by
 obtain⟨_,d⟩:=h;rcases d with⟨rfl,_⟩|⟨b,cap,f,rfl,g,_⟩
 ·simp[Value.ownBlock]
 ·simp[Value.ownBlock];omega
theorem yD {w:az}{base n:Nat}{e:bI}{v:a7}{l:List a7}(h:aC w base e 1 v n l):∀k,A v=OR k->base<=k:=by
 obtain⟨_,c⟩:=h;intro k hk;rcases c with⟨rfl,_⟩|⟨b,cap,d,rfl,f,_⟩
 ·simp[Value.ownBlock] at hk
 ·simp[Value.ownBlock] at hk;omega
theorem yE {w:az}{base n:Nat}{e:bI}{v:a7}{l:List a7}(h:aC w base e 1 v n l)(hn:0<n):∃b cap,v=Z (au b) n cap:=by
 obtain⟨_,c⟩:=h;rcases c with⟨_,c⟩|⟨b,cap,d,hv,_⟩
 ·omega
 ·exact⟨b,cap,hv⟩
def e4 (N y g:Nat)(ws:List Int)(hi:Int):Nat->Int->List Int
 |0,_=>[]
 |k+1,a=>if a<hi then(if pc (ld N y g ws a)=0 then a::e4 N y g ws hi k (a+(1+pf (ld N y g ws a))) else[]) else[]
theorem yt {N y g:Nat}{ws:List Int}{hi a:Int}(k:Nat)(h:hi<=a):e4 N y g ws hi k a=[]:=by
 cases k with
 |zero=>rfl
 |succ k=>unfold e4;rw[aJ aa]
theorem yF {N y g:Nat}{ws:List Int}{hi a:Int}(k:Nat)(h:pc (ld N y g ws a)≠0):e4 N y g ws hi k a=[]:=by
 cases k with
 |zero=>rfl
 |succ k=>unfold e4;split<;>rfl
theorem yG {N y g:Nat}{ws:List Int}{hi a:Int}(k:Nat)(hk:hi-a<=k)(h:a<hi)(c:pc (ld N y g ws a)=0):
 ∃b,k=b+1/\e4 N y g ws hi k a=a::e4 N y g ws hi b (a+(1+pf (ld N y g ws a))):=by
 cases k with
 |zero=>omega
 |succ k=>exact⟨k,rfl,by rw[e4,aN h,aN c]⟩
theorem aE{w:World}{b o:Nat}{c:Array a7}{T:bI}(h:w.heap[b]?=OR (OX c T (0,0))):bF w ⟨b,o,Y⟩=O4:=by simp[World.frozen?,h]
theorem EM (a:Int)(c base:Nat)(v:a7)(L:List Int)(w:az)(hc:w.heap[c]?=OR (OX #[v] 136 (0,0)))(i:c<base)(hB:base<=I (G w))
 (f:aC w base 3 1 v L.length (L.map (Value.int R)))(S:L.length<=100000):
 M J 159 #[ak a,aq c] w λe w'=>e=OV (ay #[])/\∃g,w'.heap[c]?=OR (OX #[g] 136 (0,0))/\aC w' base 3 1 g (L++[a]).length ((L++[a]).map (Value.int R))/\fj base c w w':=by
 obtain⟨o,hi,p,q,s⟩:=bM l6;have cc:V w (av c 0)=OR v:=aD hc
 have t:=cg hc;clear hc;have x:c<I (G w):=aa;go_enter func159,ntmps159;go_wp2_with (at_builtin;refine ui _ rfl _ _ 136 rfl base 3 o _ 1 8 underlying136 hi p q s rfl ae _ L.length _ rfl (f.alloc _) ⟨I (G w),0,Y⟩ 1 1 [ak a] rfl rfl ?_ ?_ ?_ ?_ ?_ ?_;(intro j u d;match j,d with|0,d=>(simp at d;subst d;simp[Addr.add]));(intro u l;simp at l;subst l;rfl);(unfold bL;omega);omega;(simp;omega);intro g w1 m n _;obtain⟨b1,g_,B⟩:=yE m (jw _);subst B;have b:=(n.block c (by simp;omega) (yC f i)).trans ((aU _ _ _ x).trans t.o);have W:V w1 (av c 0)=OR v:=aD b;have ab:bF w1 (av c 0)=O4:=aE b;have F:=cg b;clear b)
 go_end0;refine⟨rfl,Z (au b1) (L.length+1) g_,?_,?_,?_⟩
 ·have b:=F.o;simp only [World.setCell,bE,if_true,b,bH];simp
 ·have:=ownsRow_setCell_below m (a:=⟨c,0,Y⟩) i (Z (au b1) (L.length+1) g_)
  simpa using this
 ·refine(fj.of ((aH base w).alloc hB _) bY).trans (fj.trans (fj.of ((aH base _).grown n (by simp;omega) (yD f)) bY) ?_)
  exact⟨rfl,rfl,rfl,by simp[World.setCell],λk _ N=>aW _ _ _ _ N⟩
theorem yH {p q N O y g:Nat}{ws:List Int}(b s u:Int)(c:Nat)(w:az)(h:At w p q N O y g ws)(hc:w.heap[c]?=OR (OX #[Z Y 0 0] 136 (0,0)))(m:p≠c)(n:q≠c)
 (o:0<=b)(b1:b<=2000)(u0:0<=u)(aF:u<=2000):
 M J 158 #[aq p,bz #[ak b,ak s,ak u],.func (.func 159) #[] #[aq c]] w λe w'=>e=OV (ay #[])/\∃v,w'.heap[c]?=OR (OX #[v] 136 (0,0))/\aC w' (I (G w)) 3 1 v (e4 N y g ws (b+u) 2000 b).length ((e4 N y g ws (b+u) 2000 b).map (Value.int R))/\fj (I (G w)) c w w':=by
 have lp:=h.fw;have x:=cj hc;have B:aA (_=_):=hc;clear hc;go_enter func158,ntmps158;go_wp2_with fail
 go_loopw [6] (λi wr=>∃(a:Int)(L:List Int)(k:Nat)(v:a7),i=ak a/\b<=a/\a<=100000/\b+u-a<=k/\(L.length:Int)+b<=a/\L++e4 N y g ws (b+u) k a=e4 N y g ws (b+u) 2000 b/\wr.heap[c]?=OR (OX #[v] 136 (0,0))/\aC wr (I (G w)+1) 3 1 v L.length (L.map (Value.int R))/\fj (I (G w)+1) c (bu w (OX #[U R b,U R s,U R u] 162)) wr) (λi _=>K (b+u-bG i))
 case atStart=>exact⟨b,[],2000,_,rfl,aa,aa,aa,ac,rfl,(aU _ _ _ x).trans B.o,a9 _ _ _ _,fj.refl _ _ _⟩
 case round=>
  obtain⟨a,L,k,v,rfl,a1,a2,F,aR,j,hc,hown,hS⟩:=hrel;have d:=hS.block (I (G w)) aa aa;rw[aO] at d;have S:V wr (av (I (G w)) 0)=OR (ak b):=aD d
  have W:V wr (av (I (G w)) 1)=OR (ak s):=aD d
  have ab:V wr (av (I (G w)) 2)=OR (ak u):=aD d
  have ad:_:=(h.alloc _).same (hS.block p aa m) (hS.block q (by have:=h.fz;omega) n)
  have hsz:=hS.size;simp only [World.size_alloc] at hsz;have A5:aA (_=_):=j;have CC:aA (_=_):=hc;have aV:aA (_=_):=d;clear j hc d;go_wp2_with fail;refine(nf b s u _ o aa u0 aa).mono ?_;rintro e w1 ⟨rfl,hb1⟩
  clear S W ab;by_cases ag:a<b+u
  ·go_wp2_with fail;refine(hC a _ (ad.below hb1 bY)).mono ?_;rintro e ai ⟨rfl,al⟩
   have eP:_:=hb1.trans (al.mono hb1.size)
   by_cases hp:pc (ld N y g ws a)=0
   ·obtain⟨a0,bb⟩:=rS _ hp;obtain⟨am,rfl,f⟩:=yG (N:=N) (y:=y) (g:=g) (ws:=ws) k F ag hp;have an:aA (_=_):=hp;have E1:aA (_=_):=f;clear hp f;rw[an.o];go_wp2_with fail;refine(EM a c (I (G w)+1) v L ai ((eP.block c (cj CC.o)).trans CC.o) aa (by have:=eP.size;omega) (ng hown eP) aa).mono ?_;rintro e bd ⟨rfl,ao,l,ap,ar⟩
    have aB:aA (_=_):=l;clear l;go_wp2_with fail;go_roundw
    case rel=>exact⟨a+(1+pf (ld N y g ws a)),L++[a],am,ao,rfl,aa,aa,aa,by simp;omega,by rw[<-A5.o,E1.o];simp,aB.o,ap,(hS.trans (fj.of eP hsz)).trans ar⟩
    case measure=>simp[bG];omega
   ·have t:(pc (ld N y g ws a)!=0)=C:=by simpa using hp
    have f:=yF (N:=N) (y:=y) (g:=g) (ws:=ws) (hi:=b+u) k hp;have E1:aA (_=_):=f;clear hp f;exact yq
  ·go_wp2_with fail;exact ys
theorem EN (a:Int)(c base:Nat)(v:a7)(L:List Int)(w:az)(hc:w.heap[c]?=OR (OX #[v] 136 (0,0)))(i:c<base)(hB:base<=I (G w))
 (f:aC w base 3 1 v L.length (L.map (Value.int R)))(S:L.length<=100000):
 M J 160 #[ak a,aq c] w λe w'=>e=OV (ay #[])/\∃g,w'.heap[c]?=OR (OX #[g] 136 (0,0))/\aC w' base 3 1 g (L++[a]).length ((L++[a]).map (Value.int R))/\fj base c w w':=by
 obtain⟨o,hi,p,q,s⟩:=bM l6;have cc:V w (av c 0)=OR v:=aD hc
 have t:=cg hc;clear hc;have x:c<I (G w):=aa;go_enter func160,ntmps160;go_wp2_with (at_builtin;refine ui _ rfl _ _ 136 rfl base 3 o (ak 0) 1 8 underlying136 hi p q s rfl ae _ L.length (L.map (Value.int R)) rfl (f.alloc _) ⟨I (G w),0,Y⟩ 1 1 [ak a] rfl rfl ?_ ?_ ?_ ?_ ?_ ?_;(intro j u d;match j,d with|0,d=>(simp at d;subst d;simp[Addr.add]));(intro u l;simp at l;subst l;rfl);(unfold bL;omega);omega;(simp;omega);intro g w1 m n _;obtain⟨b1,g_,B⟩:=yE m (jw _);subst B;have b:=(n.block c (by simp;omega) (yC f i)).trans ((aU _ _ _ x).trans t.o);have W:V w1 (av c 0)=OR v:=aD b;have ab:bF w1 (av c 0)=O4:=aE b;have F:=cg b;clear b)
 go_end0;refine⟨rfl,Z (au b1) (L.length+1) g_,?_,?_,?_⟩
 ·have b:=F.o;simp only [World.setCell,bE,if_true,b,bH];simp
 ·have:=ownsRow_setCell_below m (a:=⟨c,0,Y⟩) i (Z (au b1) (L.length+1) g_)
  simpa using this
 ·refine(fj.of ((aH base w).alloc hB _) bY).trans (fj.trans (fj.of ((aH base _).grown n (by simp;omega) (yD f)) bY) ?_)
  exact⟨rfl,rfl,rfl,by simp[World.setCell],λk _ N=>aW _ _ _ _ N⟩
theorem yI {p q N O y g:Nat}{ws:List Int}(b s u:Int)(c:Nat)(w:az)(h:At w p q N O y g ws)(hc:w.heap[c]?=OR (OX #[Z Y 0 0] 136 (0,0)))(j:p≠c)(l:q≠c)
 (m:0<=b)(b1:b<=2000)(u0:0<=u)(ao:u<=2000):
 M J 158 #[aq p,bz #[ak b,ak s,ak u],.func (.func 160) #[] #[aq c]] w λe w'=>e=OV (ay #[])/\∃v,w'.heap[c]?=OR (OX #[v] 136 (0,0))/\aC w' (I (G w)) 3 1 v (e4 N y g ws (b+u) 2000 b).length ((e4 N y g ws (b+u) 2000 b).map (Value.int R))/\fj (I (G w)) c w w':=by
 have lp:=h.fw;have n:=cj hc;have o:=cg hc;clear hc;go_enter func158,ntmps158;go_wp2_with fail
 go_loopw [6] (λi wr=>∃(a:Int)(L:List Int)(k:Nat)(v:a7),i=ak a/\b<=a/\a<=100000/\b+u-a<=k/\(L.length:Int)+b<=a/\L++e4 N y g ws (b+u) k a=e4 N y g ws (b+u) 2000 b/\wr.heap[c]?=OR (OX #[v] 136 (0,0))/\aC wr (I (G w)+1) 3 1 v L.length (L.map (Value.int R))/\fj (I (G w)+1) c (bu w (OX #[U R b,U R s,U R u] 162)) wr) (λi _=>K (b+u-bG i))
 exact⟨b,[],2000,_,rfl,aa,aa,aa,ac,rfl,(aU _ _ _ n).trans o.o,a9 _ _ _ _,fj.refl _ _ _⟩
 ·
   obtain⟨a,L,k,v,rfl,a1,a2,t,ap,x,hc,hown,hS⟩:=hrel;have d:=hS.block (I (G w)) aa aa;rw[aO] at d;have ar:V wr (av (I (G w)) 0)=OR (ak b):=aD d
   have aB:V wr (av (I (G w)) 1)=OR (ak s):=aD d
   have aF:V wr (av (I (G w)) 2)=OR (ak u):=aD d
   have B:=(h.alloc _).same (hS.block p aa j) (hS.block q (by have:=h.fz;omega) l)
   have hsz:=hS.size;simp only [World.size_alloc] at hsz;have A5:=cg x;have CC:=cg hc;go_wp2_with fail;refine(nf b s u _ m aa u0 aa).mono ?_;rintro e w1 ⟨rfl,hb1⟩
   by_cases F:a<b+u
   ·go_wp2_with fail;refine(hC a _ (B.below hb1 bY)).mono ?_;rintro e S ⟨rfl,W⟩
    have eP:=hb1.trans (W.mono hb1.size)
    by_cases hp:pc (ld N y g ws a)=0
    ·obtain⟨aR,aV⟩:=rS _ hp;obtain⟨ab,rfl,f⟩:=yG (N:=N) (y:=y) (g:=g) (ws:=ws) k t F hp;have ad:=cg hp;have E1:=cg f;rw[ad.o];go_wp2_with fail;refine(EN a c (I (G w)+1) v L S ((eP.block c (cj CC.o)).trans CC.o) aa (by have:=eP.size;omega) (ng hown eP) aa).mono ?_;rintro e a0 ⟨rfl,ag,ai,al,am⟩
     have an:=cg ai;go_wp2_with fail;go_roundw;exact⟨a+(1+pf (ld N y g ws a)),L++[a],ab,ag,rfl,aa,aa,aa,by simp;omega,by rw[<-A5.o,E1.o];simp,an.o,al,(hS.trans (fj.of eP hsz)).trans am⟩
     simp[bG];omega
    ·have f:=yF (N:=N) (y:=y) (g:=g) (ws:=ws) (hi:=b+u) k hp;have E1:=cg f;exact yq
   ·go_wp2_with fail;exact ys
def eQ (N y g:Nat)(ws:List Int):List Int:=e4 N y g ws y 2000 0
def dM (N y g:Nat)(ws:List Int):List Int:=e4 N y g ws ((N:Int)+g) 2000 N
theorem rU {p q N O y g:Nat}{ws:List Int}(w:az)(h:At w p q N O y g ws):
 M J 116 #[aq p] w λe w'=>∃v1 v2,e=OV (ay #[v1,v2])/\aC w' (I (G w)) 3 1 v1 (L (eQ N y g ws)) ((eQ N y g ws).map (Value.int R))/\aC w' (I (G w)) 3 1 v2 (L (dM N y g ws)) ((dM N y g ws).map (Value.int R))/\O7 (I (G w)) w w':=by
 obtain⟨c0,c1,c2,c3,f,i,j⟩:=h.cells;have lp:=h.fw;have x:=h.fz;have k1:=h.hN';have k2:=h.hy;have k3:=h.hO;have k4:=h.hg;go_enter func116,ntmps116;go_wp2_with fail;refine(yH 0 N y (I (G w)) _ ((h.alloc _).alloc _) ((aU _ _ _ ac).trans (aO _ _)) aa aa aa aa aa aa).mono ?_;rintro e w1 ⟨rfl,v1,k,l,b⟩
 have m:=((h.alloc _).alloc _).same (b.block p (by simp;omega) aa) (b.block q (by simp;omega) aa)
 have c:=(b.block (I (G w)+1) ac aa).trans (uG _ ac)
 have o:=cg k;have s:=cg c;have t:=b.size;simp only [World.size_alloc] at t;clear k c c0 c1 c2 c3 f i j;obtain⟨c0,c1,c2,c3,f,i,j⟩:=m.cells;go_wp2_with fail;refine(yI N O g (I (G w)+1) _ m s.o aa aa aa aa aa aa).mono ?_;rintro e n ⟨rfl,v2,c,u,d⟩
 have B:V n (av (I (G w)) 0)=OR v1:=by have:=(d.block (I (G w)) aa aa).trans o.o;simp[World.cell?,this]
 have F:V n (av (I (G w)+1) 0)=OR v2:=aD c
 have S:=d.size;clear c;go_wp2
 go_quiet (fail)
 go_wp2;go_ret2;simp only [World.size_alloc] at l b;have v:eQ N y g ws=e4 N y g ws (0+(y:Int)) 2000 0:=by rw[Int.zero_add];rfl
 refine⟨v1,v2,rfl,?_,?_,?_⟩
 ·rw[v];exact ng (pb (base:=I (G w)+1+1) (yA l d bY aa) aa) (tF bZ _)
 ·exact ng (pb u aa) (tF bZ _)
 ·exact tF (((bZ.alloc bY _).alloc ac _).trans ((b.below aa bY).trans (d.below aa aa))) _
open Go.RowKit W Kp ch
theorem aP {α:Type _}{l:List α}{i:Nat}(h:i < L l):l[i]? = OR l[i]:=j5 ..
theorem aM {α:Type _}{l:List α}{i:Nat}{a:α}:X l i a = l[i]?.getD a:=bR ..
theorem Ln.at {w:az}{ad:Option bB}{c:List _}(h:Ln w ad c){i:Nat}(hi:i<L c):∃b o f fc,ad=OR ⟨b,o,Y⟩/\b<I (G w)/\V w (av b (o+i*2))=OR (ak (X c i (0,[])).1)/\V w (av b (o+i*2+1))=OR (Z f (L (X c i (0,[])).2) fc)/\dQ w f (X c i (0,[])).2:=by
 obtain⟨m,g,j,k⟩:=h;have hl:L m=L c:=by rw[<-g];simp[hW]
 obtain⟨b,o,e,hb,hc⟩:=k aa;obtain⟨x,d⟩:∃x,m[i]?=OR x:=⟨_,aP aa⟩
 have en:X c i (0,[])=(x.1,x.2.2.2):=by subst g;rw[aM,hW,iy,d];rfl
 rw[en];exact⟨b,o,_,_,e,hb,(hc i _ d).1,(hc i _ d).2,j _ (List.mem_of_getElem? d)⟩
def mM {d:Type}(o:dr d)(D:Int->Prop)(f:Nat)(b c:Array a7)(nw:d->Int->Int):Prop:=
 ∀F t w (x:Int),D x->o.J F t w->M prog f (b.push (ak x)++c) w λr w'=>r=OV (ak (nw t x))/\O7 (I (G w)) w w'
def lu {d:Type}(o:dr d)(D:Int->Prop)(f:Nat)(b c:Array a7)(is:d->Int->Bool):Prop:=
 ∀F t w (x:Int),D x->o.J F t w->M prog f (b.push (ak x)++c) w λr w'=>r=OV (bA (is t x))/\O7 (I (G w)) w w'
def pd {d:Type}(o:dr d)(D:Int->Prop)(f:Nat)(b c:Array a7)(kp:d->Int->Int×d):Prop:=
 ∀F t w (x:Int),D x->o.J F t w->M prog f (b.push (ak x)++c) w λr w'=>∃e,r=OV (ak (kp t x).1)/\o.J e (kp t x).2 w'/\Fr F w w'/\∀k,e k->F k\/I (G w)<=k
theorem a_ {α:Type _}{l:List α}{n:Nat}(h:n < L l):l[n] ∈ l:=List.getElem_mem ..
theorem aw(w:az)(o:Obj):O7 (I (G w)) w (w.alloc o):=(Below.refl _ w).alloc (Nat.le_refl _) o
theorem yJ {W:Type}(o:dr W)(D:Int->Prop)(f:Nat)(b c:Array a7)(nw:W->Int->Int)(ap:ef f)(ht:mM o D f b c nw)(l:List b8)(ad:Option bB)(cap:Nat)(F:Nat->Prop)(t:W)(w:az)
 (hD:∀e∈l,D e.1/\D e.2)(hm:L l<=100000)(ar:o.J F t w)(hp:dQ w ad l):
 M prog 252 #[Z ad (L l) cap,.func (.func f) b c] w λr w'=>∃a1 c1,r=OV (Z a1 (L l) c1)/\aC w' (I (G w)) 247 2 (Z a1 (L l) c1) (L l) (ev (l.map λe=>(nw t e.1,nw t e.2)))/\O7 (I (G w)) w w':=by
 obtain⟨bp,hi,br,bs,bt⟩:=bM o_;have aB:aA (mM o D f b c nw):=ht;have bx:aA (dQ w ad l):=hp;have aF:aA (o.J F t w):=ar;clear hp ht ar;have cc:∀(args:Array a7)(w:az),(callFunc f args).run prog w=.ok (.enter f args) w:=ap;clear ap;go_enter func252,ntmps252;go_wp2_with fail
 go_loopw [5,10] (λvt iv wr=>∃(j:Nat)(T:List b8)(n:Option bB)(p:Nat),j<=L l/\iv=ak j/\aA (T=(l.take j).map λe=>(nw t e.1,nw t e.2))/\vt=Z n (L T) p/\
  aC wr (I (G w)) 247 2 (Z n (L T) p) (L T) (ev T)/\O7 (I (G w)) w wr) (λ_ iv _=>L l-K (bG iv))
 case atStart=>exact⟨0,[],Y,0,a4 _,rfl,rfl,rfl,a9 _ _ _ _,aH _ _⟩
 case round=>
  obtain⟨j,T,n,p,m,rfl,v,rfl,d,hb⟩:=hrel;have b0:L T<=100000:=by rw[v.o];simp;omega
  by_cases B:j<L l
  ·obtain⟨cd,ce,b1,cf,hc⟩:=bx.o.below hb aa;obtain⟨aR,aV⟩:=hc j B;clear hc;obtain⟨a0,a2⟩:=hD (X l j (0,0)) (by rw[aM,aP B];exact a_ B)
   have ab:aA (T++[(nw t (X l j (0,0)).1,nw t (X l j (0,0)).2)]=(l.take (j+1)).map λe=>(nw t e.1,nw t e.2)):=by show _=_;rw[h_ l j B (0,0),List.map_append,v.o];rfl
   generalize (X l j (0,0)).1=g at aR ab a0;generalize (X l j (0,0)).2=z at aV ab a2;subst b1;have b2:=hb.size;have ag:O7 (I (G w)) w (bu wr (OX #[U R g,U R z] 247)):=hb.alloc b2 _;have ai:=gq d (OX #[U R g,U R z] 247)
   go_wp2_with fail
   go_region_held3 (λw'=>V w' (av (I (G wr)) 0)=OR (ak g)/\V w' (av (I (G wr)) 1)=OR (ak z)) (go_keep)
    (first
      |(refine(aB.o F t _ g a0 (o.below aF.o ag.drew)).mono ?_;rintro e N ⟨rfl,q⟩;have al:O7 (I (G w)) w N:=ag.drew.trans (q.mono (by simp;omega));have am:=cK ai (λk e=>q.block k (cu ai k e).2);have b3:=q.size;simp at b3;have y1:V N (av (I (G wr)) 0)=OR (ak g):=(q.cell ac).trans ac;have bb:V N (av (I (G wr)) 1)=OR (ak z):=(q.cell ac).trans ac;have bd:I (G wr)<I (G N):=aa)
      |(refine(aB.o F t _ z a2 (o.below aF.o al)).mono ?_;rintro e i ⟨rfl,s⟩;have an:O7 (I (G w)) w i:=al.trans (s.mono aa);have be:=cK am (λk e=>s.block k (cu am k e).2);have cg:=s.size;have bg:V i (av (I (G wr)) 0)=OR (ak g):=(s.cell bd).trans y1;have bi:V i (av (I (G wr)) 1)=OR (ak z):=(s.cell bd).trans bb;have bl:I (G wr)<I (G i):=aa)
      |(refine step_append_lies _ rfl (.tmp 14) (.tmp 24) 195 rfl (I (G w)) 247 bp (bz #[ak 0,ak 0]) 2 16 underlying195 hi br bs bt rfl ae (Z n (L T) p) (L T) (ev T) (by simp[Act.eval]) (gq be _) ⟨I (G i),0,Y⟩ 1 1 [ak (nw t g),ak (nw t z)] (by simp[Act.eval]) rfl ?_ ?_ ae (by unfold bL;omega) aa (by simp;omega) _ rfl ?_;(intro j u m;match j,m with|0,m=>(simp at m;subst m;simp[Addr.add])|1,m=>(simp at m;subst m;simp[Addr.add]));(intro u x;simp at x;rcases x with x|x<;>(subst x;rfl));intro b6 bn ao bo S b4 b5;have b7:V ao (av (I (G wr)) 0)=OR (ak g):=S.cell (((aw i _).cell bl).trans bg) (λe=>absurd (cu d _ e).2 (Ls _));have b9:V ao (av (I (G wr)) 1)=OR (ak z):=S.cell (((aw i _).cell bl).trans bi) (λe=>absurd (cu d _ e).2 (Ls _))))
   have ca:aC ao (I (G w)) 247 2 (Z (au b6) (L (T++[(nw t g,nw t z)])) bn) (L (T++[(nw t g,nw t z)])) (ev (T++[(nw t g,nw t z)])):=by rw[jL];simpa[ev] using bo
   have cb:=(an.alloc an.size _).grown S (by simp;omega) (λk e=>(cu d k e.symm).1)
   clear bo S b4 b5 ai am be ag al an d hb q s y1 bb bg bi b7 b9 aR aV;go_wp2_with fail;go_roundw
   case rel=>exact⟨j+1,T++[(nw t g,nw t z)],au b6,bn,aa,aj,ab,ac,ca,cb⟩
   case measure=>simp[bG];omega
  ·obtain rfl:j=L l:=aa;rw[ba] at v;have hl:L T=L l:=by rw[v.o,a5]
   rw[hl] at d;have d:aC wr (I (G w)) 247 2 (Z n (L l) p) (L l) (ev (l.map λe=>(nw t e.1,nw t e.2))):=by rw[<-v.o];exact d
   clear b0;go_wp2_with fail;go_ret;exact⟨n,p,by rw[hl];rfl,d,hb⟩
theorem yK (z:a7)(n:Nat)(hz:z.cells.size=2):(Builtin.zeroCells z.cells n).size=n*2:=by rw[size_zeroCells,hz]
theorem EO (w:az)(n:Nat)(hn:n<=100000):
 M J 325 #[Z Y 0 0,ak n] w λe w'=>∃a1 c1,e=OV (Z a1 0 c1)/\aC w' (I (G w)) 247 2 (Z a1 0 c1) 0 []/\O7 (I (G w)) w w':=by
 obtain⟨c,hi,d,f,i⟩:=bM o_;rcases Bi n with h0|h0
 ·subst h0;go_enter func325,ntmps325;go_wp2;go_ret;exact⟨Y,0,rfl,a9 _ _ _ _,aH _ _⟩
 ·have hr:=Lib.run_append_nil_zeros (P:=J) w 195 3 195 247 c _ R R underlying195 underlying3 hi d n h0 (by rw[f];decide) aa (by rw[i];omega)
  have j:=grownCap_ge w n 0 247;have b:=grownCap_le_maxLen w n 0 247 (by unfold bL;omega)
  generalize grownCap w n 0 247=g at hr j b;have hown:aC (bu w.drew (OX (Builtin.zeroCells (Value.agg #[U R 0,U R 0]).cells n++Builtin.zeroCells (Value.agg #[U R 0,U R 0]).cells (g-n)) 247)) (I (G w)) 247 2 (Z (OR ⟨I (G w),0,Y⟩) 0 g) 0 []:=
   World.ownsRow_made w.drew _ g bY b (by rw[Array.size_append,yK _ _ rfl,yK _ _ rfl];omega)
  have hb:O7 (I (G w)) w (bu w.drew (OX (Builtin.zeroCells (Value.agg #[U R 0,U R 0]).cells n++Builtin.zeroCells (Value.agg #[U R 0,U R 0]).cells (g-n)) 247)):=(aH _ w).drew.alloc bY _;go_enter func325,ntmps325;exact yx
theorem EP (D:b8->Prop)(f:Nat)(b c:Array a7)(p:b8->Bool)(o:ef f)(w:az)
 (hl:∀(w':az)(e:b8),D e->I (G w)<=I (G w')->(∀k,k<I (G w)->w'.heap[k]?=w.heap[k]?)->M J f (b.push (en e)++c) w' λr t=>r=OV (bA (p e))/\O7 (I (G w')) w' t)
 (l:List b8)(ad:Option bB)(cap:Nat)(hD:∀e∈l,D e)(hm:L l<=100000)(hp:dQ w ad l):
 M J 311 #[Z ad (L l) cap,.func (.func f) b c] w λr w'=>O7 (I (G w)) w w'/\((r=OV (ak (-1))/\∀e∈l,p e=O4)\/∃i:Nat,r=OV (ak i)/\i<L l/\p (X l i (0,0))=C/\∀e∈l.take i,p e=O4):=by
 have u:=cg hl;have v:=cg hp;have x:=cg hD;have ab:∀(args:Array a7)(w:az),(callFunc f args).run J w=.ok (.enter f args) w:=o;clear hl hp o hD;go_enter func311,ntmps311;go_wp2_with fail
 go_loopw [8] (λiv wr=>∃j:Nat,j<=L l/\iv=ak j/\aA (∀e∈l.take j,p e=O4)/\O7 (I (G w)) w wr) (λiv _=>L l-K (bG iv))
 case atStart=>exact⟨0,a4 _,rfl,by simp[aA,Hid],aH _ _⟩
 case round=>
  obtain⟨j,ag,rfl,m,hb⟩:=hrel;by_cases d:j<L l
  ·obtain⟨ai,al,B,am,hc⟩:=v.o.below hb aa;obtain⟨F,N⟩:=hc j d;have n:aA (X l j (0,0)=((X l j (0,0)).1,(X l j (0,0)).2)):=rfl;have hd:D (X l j (0,0)):=x.o _ (by rw[aM,aP d];exact a_ d)
   have hd:D ((X l j (0,0)).1,(X l j (0,0)).2):=hd;obtain⟨g,hg⟩:∃g,g=(X l j (0,0)).1:=⟨_,rfl⟩
   obtain⟨z,hz⟩:∃z,z=(X l j (0,0)).2:=⟨_,rfl⟩
   rw[<-hg] at F hd n;rw[<-hz] at N hd n;clear hc hg hz;subst B;go_wp2_with fail;refine(u.o wr (g,z) hd hb.size hb.block).mono ?_;rintro r w1 ⟨rfl,q⟩
   have s:=hb.trans (q.mono hb.size)
   clear hb q;cases hp:p (g,z)
   ·have S:aA (∀e∈l.take (j+1),p e=O4):=λe he=>by
     rw[h_ l j d (0,0),List.mem_append,List.mem_singleton] at he;rcases he with he|he
     ·exact m.o e he
     ·rw[he,n.o];exact hp
    clear hp;go_wp2_with fail;go_roundw;exact⟨j+1,aa,aj,S,s⟩
    simp[bG];omega
   ·have W:aA (p (X l j (0,0))=C):=by show _=_;rw[n.o];exact hp
    clear hp;go_wp2_with fail;go_ret;exact⟨s,aI ⟨j,rfl,d,W.o,m.o⟩⟩
  ·obtain rfl:j=L l:=aa;rw[ba] at m;go_wp2_with fail;go_ret;exact⟨hb,aK ⟨rfl,m.o⟩⟩
theorem yL (a b:Option bB)(ca cb:Nat)(l:List (Int×Int))(w:az)(hm:L l<=100000)(ha:dQ w a l)(hb:dQ w b l):
 M J 214 #[Z a (L l) ca,Z b (L l) cb] w λe w'=>e=OV (bA C)/\O7 (I (G w)) w w':=by
 have f:=cg ha;have g:=cg hb;clear ha hb;go_enter func214,ntmps214;go_wp2
 go_loopw [13] (λiv wr=>∃j:Nat,j<=L l/\iv=ak j/\O7 (I (G w)) w wr) (λiv _=>L l-K (bG iv))
 exact⟨0,a4 _,rfl,aH _ _⟩
 ·
   obtain⟨j,q,rfl,hb⟩:=hrel;by_cases c:j<L l
   ·obtain⟨s,t,i,x,hc⟩:=(f.o.below hb) aa;obtain⟨k,m⟩:=hc j c;subst i;obtain⟨b2,B,n,F,d⟩:=(g.o.below hb) aa;obtain⟨o,p⟩:=d j c;subst n;clear hc d;generalize (X l j (0,0)).1=u at k o;generalize (X l j (0,0)).2=v at m p;go_wp2
    go_quiet (fail)
    go_wp2;go_roundw;exact⟨j+1,aa,aj,by first|exact tF hb _|exact hb.drew|exact hb⟩
    simp[bG];omega
   ·obtain rfl:j=L l:=aa;go_wp2;go_ret;exact⟨rfl,hb⟩
theorem EQ (k:Int)(a b:Option bB)(ca cb:Nat)(l:List (Int×Int))(w:az)(hm:L l<=100000)(ha:dQ w a l)(hb:dQ w b l):
 M J 216 #[bz #[ak k,Z a (L l) ca],bz #[ak k,Z b (L l) cb]] w λe w'=>e=OV (bA C)/\O7 (I (G w)) w w':=by
 have c:=(aw w (OX #[U R k,Z a (L l) ca] 101)).alloc ac (OX #[U R k,Z b (L l) cb] 101)
 have P:=yL a b ca cb l _ hm (ha.below c) (hb.below c)
 have f:I (G (bu (bu w (OX #[U R k,Z a (L l) ca] 101)) (OX #[U R k,Z b (L l) cb] 101)))=I (G w)+2:=ac;clear ha hb;go_enter func216,ntmps216;go_wp2_with fail;refine P.mono ?_;clear P;rintro e w1 ⟨rfl,d⟩
 go_wp2_with fail;go_ret;exact⟨rfl,(c.trans (d.mono aa))⟩
theorem ER (n1 m:Option bB)(x B:Nat)(b:List (Int×List (Int×Int)))(w:az)(hl:L b<=100000)(F:∀nd∈b,L nd.2<=100000)(N:Ln w n1 b)(S:Ln w m b):
 M J 215 #[Z n1 (L b) x,Z m (L b) B,.func (.func 216) #[] #[]] w λe w'=>e=OV (bA C)/\O7 (I (G w)) w w':=by
 have W:aA (∀w',O7 (I (G w)) w w'->Ln w' n1 b):=λw' hb=>N.below hb;have ab:aA (∀w',O7 (I (G w)) w w'->Ln w' m b):=λw' hb=>S.below hb;have ad:=cg F;go_enter func215,ntmps215;go_wp2_with fail
 go_loopw [17] (λiv wr=>∃j:Nat,j<=L b/\iv=ak j/\aA (O7 (I (G w)) w wr)) (λiv _=>L b-K (bG iv))
 exact⟨0,a4 _,rfl,aH _ _⟩
 ·
   obtain⟨j,aF,rfl,hb⟩:=hrel;by_cases d:j<L b
   ·obtain⟨b1,o1,f,g,ag,l1,ai,al,o⟩:=(W.o wr hb.o).at d;obtain⟨b2,q,i,k,am,l2,s,t,u⟩:=(ab.o wr hb.o).at d;subst ag am;have v:L (X b j (0,[])).2<=100000:=ad.o _ (by rw[aM,aP d];exact a_ d)
    generalize (X b j (0,[])).1=kd at ai s;generalize (X b j (0,[])).2=c at al o t u v;have n:=aw wr (OX #[U R kd,Z f (L c) g] 101)
    have aR:=(n.cell (p:=av b2 (q+j*2)) l2).trans s;have aV:=(n.cell (p:=av b2 (q+j*2+1)) l2).trans t;have l:=n.alloc ac (OX #[U R kd,Z i (L c) k] 101)
    have an:aA (M J 216 #[bz #[ak kd,Z f (L c) g],bz #[ak kd,Z i (L c) k]] (bu (bu wr (OX #[U R kd,Z f (L c) g] 101)) (OX #[U R kd,Z i (L c) k] 101)) λe w'=>e=OV (bA C)/\O7 (I (G w)) w w'):=by
     refine(EQ kd f i g k c _ v (o.below l) (u.below l)).mono ?_;rintro e w' ⟨rfl,ao⟩
     exact⟨rfl,hb.o.trans ((l.trans (ao.mono l.size)).mono hb.o.size)⟩
    have ap:=an.o;go_wp2_with fail;refine ap.mono ?_;rintro e a0 ⟨rfl,ar⟩
    have aB:=cg ar;go_wp2_with fail;go_roundw;exact⟨j+1,aa,aj,aB⟩
    simp[bG];omega
   ·obtain rfl:j=L b:=aa;go_wp2_with fail;go_ret;exact⟨rfl,hb.o⟩
theorem ES (r1 f n1 d:Option bB)(c1 c2 g i:Nat)(c:List (Int×Int))(b:List (Int×List (Int×Int)))(w:az)(hm:L c<=100000)(hl:L b<=100000)(n:∀nd∈b,L nd.2<=100000)(o:dQ w r1 c)(q:dQ w f c)(s:Ln w n1 b)(t:Ln w d b):
 M J 137 #[bz #[Z r1 (L c) c1,Z n1 (L b) g],bz #[Z f (L c) c2,Z d (L b) i]] w λe w'=>e=OV (bA C)/\O7 (I (G w)) w w':=by
 have j:=(aw w (OX #[Z r1 (L c) c1,Z n1 (L b) g] 97)).alloc ac (OX #[Z f (L c) c2,Z d (L b) i] 97)
 have k0:V (bu (bu w (OX #[Z r1 (L c) c1,Z n1 (L b) g] 97)) (OX #[Z f (L c) c2,Z d (L b) i] 97)) (av (I (G w)) 1)=OR (Z n1 (L b) g):=by simp[go_sem]
 have k1:V (bu (bu w (OX #[Z r1 (L c) c1,Z n1 (L b) g] 97)) (OX #[Z f (L c) c2,Z d (L b) i] 97)) (av (I (G w)+1) 1)=OR (Z d (L b) i):=by simp[go_sem]
 have u:I (G (bu (bu w (OX #[Z r1 (L c) c1,Z n1 (L b) g] 97)) (OX #[Z f (L c) c2,Z d (L b) i] 97)))=I (G w)+2:=ac;have P:=yL r1 f c1 c2 c _ hm (o.below j) (q.below j)
 have m:aA (∀w',O7 (I (G w)) w w'->_):=λw' hb=>ER n1 d g i b w' hl n (s.below hb) (t.below hb)
 go_enter func137,ntmps137;go_wp2_with fail;refine P.mono ?_;rintro e w1 ⟨rfl,k⟩
 have l:=j.trans (k.mono aa)
 have B:=(k.cell (p:=av (I (G w)) 1) (by show I (G w)<_;omega)).trans k0;have F:=(k.cell (p:=av (I (G w)+1) 1) (by show I (G w)+1<_;omega)).trans k1;have v:=m.o w1 l;clear j k0 k1 u k m;go_wp2_with fail;refine v.mono ?_;rintro e N ⟨rfl,x⟩
 go_wp2_with fail;go_ret;exact⟨rfl,(l.trans (x.mono l.size))⟩
def B1:List Int:=gs (List.replicate 24 0) 0 33 2
def B2:List Int:=gs B1 3 194 12
theorem e16:ia 16 16 0 0=16:=by decide+kernel
theorem ET (ws:List Int)(y:Nat)(hd:Int)(k:Nat):L (gs ws y hd k)=L ws:=by
 induction k with
 |zero=>simp[gs]
 |succ k b=>simp[gs,b]
theorem EU (l:List Int)(i j:Nat)(x:Int)(h:i<L l):X (l.set i x) j 0=if i=j then x else X l j 0:=by grind
theorem j6 (ws:List Int)(y:Nat)(hd:Int)(k i:Nat)(h:y+k<L ws):X (gs ws y hd k) i 0=if i=y then hd else if y+1<=i/\i<y+1+k then 2 else X ws i 0:=by
 induction k with
 |zero=>
  grind [gs]
 |succ k b=>
  grind [ET,gs]
theorem EV (y f:Nat):hB 0 ((y+1+f:Nat):Int) y=C:=by simp[hB];omega
theorem yM {N y g:Nat}{ws:List Int}(hd:Int)(f:Nat)(h:y+f<L ws):ld N (y+1+f) g (gs ws y hd f) y=hd:=by grind [EV,j6,dB,ld]
def jo (N y:Nat)(k f:Int):Bool:=decide (hc k f=0/\f+1<=(N:Int)-y)
def jb (N O y g:Nat)(ws:List Int)(a:Int):Bool:=decide (pc (ld N y g ws a)=0/\1+pf (ld N y g ws a)<=ia N y g a-a/\1+pf (ld N y g ws a)<=(O:Int)-g)
theorem qv {N y:Nat}{k f:Int}(h:jo N y k f=C):hc k f=0/\f+1<=(N:Int)-y:=by grind [jo]
theorem EW {N y:Nat}{k f:Int}(h:jo N y k f=O4):hc k f≠0\/(N:Int)-y<f+1:=by grind [jo]
theorem qw {N O y g:Nat}{ws:List Int}{a:Int}(h:jb N O y g ws a=C):pc (ld N y g ws a)=0/\1+pf (ld N y g ws a)<=ia N y g a-a/\1+pf (ld N y g ws a)<=(O:Int)-g:=by grind [jb]
theorem EX {N O y g:Nat}{ws:List Int}{a:Int}(h:jb N O y g ws a=O4):pc (ld N y g ws a)≠0\/ia N y g a-a<1+pf (ld N y g ws a)\/(O:Int)-g<1+pf (ld N y g ws a):=by grind [jb]
def rV (N y:Nat)(k f:Int):Int:=if jo N y k f=C then(y:Int) else-1
def jM (N y:Nat)(k f:Int):Nat:=if jo N y k f=C then y+1+K f else y
def gH (N y:Nat)(k f:Int)(ws:List Int):List Int:=if jo N y k f=C then gs ws y (hw k f) (K f) else ws
def n9 (N O y g:Nat)(ws:List Int)(a:Int):Int:=if jb N O y g ws a=C then((N+g:Nat):Int) else-1
def kP (N O y g:Nat)(ws:List Int)(a:Int):Nat:=if jb N O y g ws a=C then g+(1+K (pf (ld N y g ws a))) else g
def kQ (N O y g:Nat)(ws:List Int)(a:Int):List Int:=if jb N O y g ws a=C then lF ws (N+g) ((ws.drop (K a)).take (1+K (pf (ld N y g ws a)))) else ws
theorem EY {p q N O y g:Nat}{ws:List Int}(k f:Int)(w:az)(h:At w p q N O y g ws):
 M J 279 #[aq p,ak k,ak f] w λe w'=>e=OV (ak (rV N y k f))/\At w' p q N O (jM N y k f) g (gH N y k f ws)/\dl p q w w':=by
 unfold rV jM gH;cases hb:jo N y k f
 ·rw[aJ ac,aJ ac,aJ ac];exact(EE k f w h (EW hb)).mono λe w' b=>⟨b.1,h.below b.2 aa,dl.of b.2⟩
 ·exact ED k f w h (qv hb).1 (qv hb).2
theorem yN {p q N O y g:Nat}{ws:List Int}(a:Int)(w:az)(h:At w p q N O y g ws):
 M J 276 #[aq p,ak a] w λe w'=>e=OV (ak (n9 N O y g ws a))/\At w' p q N O y (kP N O y g ws a) (kQ N O y g ws a)/\dl p q w w':=by
 unfold n9 kP kQ;cases hb:jb N O y g ws a
 ·rw[aJ ac,aJ ac,aJ ac];exact(EL a w h (EX hb)).mono λe w' b=>⟨b.1,h.below b.2 aa,dl.of b.2⟩
 ·exact EK a w h (qw hb).1 (qw hb).2.1 (qw hb).2.2
section
variable {P:Program}(w:az)
theorem EZ (base:Nat)(t ty e:bI)(i:TypeInfo)(z:a7)(size bytes:Nat)(ht:P.underlying t=OR (.slice e))(hi:P.info? e=OR i)(hz:i.zero=OR z)
 (l:i.size=size)(o:i.bytes=bytes)(p:z.cells.size=size)(q:0<size)
 (v:a7)(n:Nat)(g:List a7)(k:aC w base e size v n g)
 (ad:Option bB)(m c:Nat)(f:List a7)(hl:L f=m*size)(s:ad=Y->m=0/\c=0)(S:∀a,ad=OR a->∀j u,f[j]?=OR u->V w (a.add j)=OR u)(x:∀u∈f,u.oneCell'=C)
 (B:n+m<=bL)(F:(n+m)*bytes<=140737488355328)(N:base<=I (G w)):
 ∃b d w',(Builtin.append_ #[t,t] ty #[v,Z ad m c]).run P w=.ok (Z b (n+m) d) w'/\aC w' base e size (Z b (n+m) d) (n+m) (g++f)/\w.grownBy w' v.ownBlock/\(A (Value.slice b (n+m) d)=A v\/A (Value.slice b (n+m) d)=OR (I (G w))):=by
 cases ad with
 |some a=>
  obtain⟨W,w',hr,ab,ag,_,ai⟩:=run_append_own_at (P:=P) w base t ty e i z size bytes ht hi hz l o p q v n g k a m c f hl (by grind) x B F N
  grind [e7]
 |none=>
  obtain⟨rfl,rfl⟩:=s rfl;have hn:=bU (by simpa using hl)
  subst hn;have hr:=run_append_owned_none (P:=P) w base t ty e i size ht hi v n g k;obtain⟨b,d,rfl⟩:=e7 k;exact⟨b,d,w,hr,by grind,⟨rfl,rfl,rfl,aG _,λ_ _ _=>rfl⟩,aK rfl⟩
theorem E0 {o:Oper}{a:Act}{K:Act->az->Prop}{Q:Exit->Act->az->Prop}(s x:Operand)(t:bI)
 (ho:o.op=.call {callee:=.builtin .append,args:=#[s,x],argTypes:=#[t,t]})
 (base:Nat)(e:bI)(i:TypeInfo)(z:a7)(size bytes:Nat)(ht:P.underlying t=OR (.slice e))(hi:P.info? e=OR i)(hz:i.zero=OR z)
 (k:i.size=size)(l:i.bytes=bytes)(p:z.cells.size=size)(q:0<size)
 (v:a7)(n:Nat)(g:List a7)(hs:a.eval s=v)(B:aC w base e size v n g)
 (ad:Option bB)(m c:Nat)(f:List a7)(F:a.eval x=Z ad m c)(hl:L f=m*size)(N:ad=Y->m=0/\c=0)(S:∀a,ad=OR a->∀j u,f[j]?=OR u->V w (a.add j)=OR u)(W:∀u∈f,u.oneCell'=C)
 (ab:n+m<=bL)(ag:(n+m)*bytes<=140737488355328)(ai:base<=I (G w))
 (h:∀b d w',aC w' base e size (Z b (n+m) d) (n+m) (g++f)->w.grownBy w' v.ownBlock->(A (Value.slice b (n+m) d)=A v\/A (Value.slice b (n+m) d)=OR (I (G w)))->K (a.put o.dst (Z b (n+m) d)) w'):o.wp P a w K Q:=by
 obtain⟨b,d,w',hr,al,am,an⟩:=EZ (P:=P) w base t o.type e i z size bytes ht hi hz k l p q v n g B ad m c f hl N S W ab ag ai;unfold Oper.wp execOp;simp only [ho,resolve,invoke,builtin,Sem.run_bind,Sem.run_pure,Result.andThen_ok,List.map_toArray,List.map_cons,List.map_nil,hs,F,hr];exact h b d w' al am an
theorem yO {ops:Array Oper}{k:List Oper}{o:Oper}{a:Act}{Q:Exit->Act->az->Prop}(l:o.guard=Y)(s x:Operand)(t:bI)
 (ho:o.op=.call {callee:=.builtin .append,args:=#[s,x],argTypes:=#[t,t]})
 (base:Nat)(e:bI)(i:TypeInfo)(z:a7)(size bytes:Nat)(ht:P.underlying t=OR (.slice e))(hi:P.info? e=OR i)(hz:i.zero=OR z)
 (p:i.size=size)(q:i.bytes=bytes)(B:z.cells.size=size)(F:0<size)
 (v:a7)(n:Nat)(g:List a7)(hs:a.eval s=v)(N:aC w base e size v n g)
 (ad:Option bB)(m c:Nat)(b:List a7)(S:a.eval x=Z ad m c)(hl:L b=m*size)(W:ad=Y->m=0/\c=0)(ab:∀a,ad=OR a->∀j u,b[j]?=OR u->V w (a.add j)=OR u)(ag:∀u∈b,u.oneCell'=C)
 (ai:n+m<=bL)(al:(n+m)*bytes<=140737488355328)(am:base<=I (G w))
 (h:∀d f w',aC w' base e size (Z d (n+m) f) (n+m) (g++b)->w.grownBy w' v.ownBlock->(A (Value.slice d (n+m) f)=A v\/A (Value.slice d (n+m) f)=OR (I (G w)))->wpList P ops Q k (a.put o.dst (Z d (n+m) f)) w'):wpList P ops Q (o::k) a w:=
 wpList_plain l λ_ an=>E0 w s x t ho base e i z size bytes ht hi hz p q B F v n g hs N ad m c b S hl W ab ag ai al am λd f w' ao ap ar=>(by grind)
end
theorem jn.below {w w':az}{ad:Option bB}{l:List Int}(h:jn w ad l)(hb:O7 (I (G w)) w w'):jn w' ad l:=
 h.keep hb.size (λhp z e=>by
  obtain⟨b,o,c,d,_⟩:=h hp
  grind [Below.block])
theorem E5 (w:az)(ad:Option bB)(l:List Int)(cap:Nat)(v:Int)(h:jn w ad l)(hm:L l<=100000):
 M J 322 #[Z ad (L l) cap,ak v] w λe w'=>∃a:Int,e=OV (ak a)/\decide (0<=a)=bJ l v/\O7 (I (G w)) w w':=by
 go_enter func322,ntmps322;go_wp2_with fail
 go_loopw [8] (λiv wr=>∃j:Nat,j<=L l/\iv=ak j/\aA (∀i,i<j->¬X l i 0=v)/\O7 (I (G w)) w wr) (λiv _=>L l-K (bG iv))
 exact⟨0,a4 _,rfl,λi h=>aa,aH _ _⟩
 ·
   obtain⟨j,n,rfl,d,hb⟩:=hrel;by_cases f:j<L l
   ·obtain⟨o,p,k,q,hc⟩:=(cg h).o.below hb aa;have g:=hc j f;subst k;by_cases hv:X l j 0=v
    ·have b:bJ l v=C:=by rw[bT,<-hv,aM,aP f];exact a_ _
     rw[hv] at g;clear hc;go_wp2;go_ret;exact⟨j,rfl,by rw[b];simp,hb⟩
    ·have m:aA (∀i,i<j+1->¬X l i 0=v):=λi hi=>by
      by_cases c:i=j
      ·rw[c];exact hv
      ·exact d.o i aa
     generalize X l j 0=u at g hv;clear hc;go_wp2;go_roundw;exact⟨j+1,aa,aj,m,hb⟩
     simp[bG];omega
   ·obtain rfl:j=L l:=aa;have b:bJ l v=O4:=by rw[Bool.eq_false_iff];intro hc;rw[bT] at hc;obtain⟨i,hi,e⟩:=List.mem_iff_getElem.1 hc;exact d.o i hi (by simp[j5 hi,e])
    go_wp2;go_ret;exact⟨-1,rfl,by rw[b];rfl,hb⟩
theorem yP (w:az)(ad:Option bB)(l:List Int)(cap:Nat)(v:Int)(h:jn w ad l)(hm:L l<=100000):
 M J 295 #[Z ad (L l) cap,ak v] w λe w'=>e=OV (bA (bJ l v))/\O7 (I (G w)) w w':=by
 go_enter func295,ntmps295;go_wp2_with fail;refine(E5 w ad l cap v h hm).mono ?_;rintro e w1 ⟨a,rfl,ha,b⟩
 have c:=cg ha;clear ha;go_wp2;go_ret;exact⟨by rw[<-c.o];rfl,b⟩
def tB (N y g:Nat)(ws:List Int)(x:Int):Bool:=di x&&(bJ (eQ N y g ws) (cq x)||bJ (dM N y g ws) (cq x))
def kR (N y g:Nat)(ws:List Int)(x:Int):Int:=if tB N y g ws x=C then cq x else 0
theorem aT (w:az)(a:bB){u:a7}(h:V w a = OR u):a.block < I (G w):=by intros;apply World.block_lt_of_cell?<;>assumption
theorem E6 {pw p q N O y g:Nat}{ws:List Int}(x:Int)(w:az)(hc:V w (av pw 0)=OR (aq p))(h:At w p q N O y g ws)(l:L (eQ N y g ws)<=100000)(hO:L (dM N y g ws)<=100000):
 M J 229 #[aq pw,ak x] w λe w'=>e=OV (ay #[ak (kR N y g ws x),bA (tB N y g ws x)])/\O7 (I (G w)) w w':=by
 have m:=cg h;have ja:=aT w _ hc;have P:=o8 x w;cases ha:di x
 ·have c:tB N y g ws x=O4:=by simp[tB,ha]
  have d:kR N y g ws x=0:=by simp[kR,c]
  rw[c,d];rw[ha] at P;go_enter func229,ntmps229;exact uH
 ·rw[ha] at P;have c:tB N y g ws x=(bJ (eQ N y g ws) (cq x)||bJ (dM N y g ws) (cq x)):=by simp[tB,ha]
  have d:kR N y g ws x=if(bJ (eQ N y g ws) (cq x)||bJ (dM N y g ws) (cq x))=C then cq x else 0:=by unfold kR;rw[c]
  rw[c,d];generalize cq x=v at P;obtain⟨c1,f⟩:∃b,bJ (eQ N y g ws) v=b:=⟨_,rfl⟩
  obtain⟨c2,i⟩:∃b,bJ (dM N y g ws) v=b:=⟨_,rfl⟩
  rw[f,i];have n:=cg f;have o:=cg i;have K:∀w1,O7 (I (G w)) w w1->M J 116 #[aq p] w1 λe w'=>∃d1 f1 d2 f2,e=OV (ay #[Z d1 (L (eQ N y g ws)) f1,Z d2 (L (dM N y g ws)) f2])/\aA (∀w3,O7 (I (G w')) w' w3->M J 295 #[Z d1 (L (eQ N y g ws)) f1,ak v] w3 λe w4=>e=OV (bA c1)/\O7 (I (G w3)) w3 w4)/\aA (∀w3,O7 (I (G w')) w' w3->M J 295 #[Z d2 (L (dM N y g ws)) f2,ak v] w3 λe w4=>e=OV (bA c2)/\O7 (I (G w3)) w3 w4)/\O7 (I (G w1)) w1 w':=λw1 hb1=>by
   refine(rU w1 (m.o.below hb1 bY)).mono ?_;rintro e w2 ⟨v1,v2,rfl,j,k,hb2⟩
   obtain⟨d1,f1,rfl⟩:=e7 j;obtain⟨d2,f2,rfl⟩:=e7 k;refine⟨d1,f1,d2,f2,rfl,λw3 hb3=>?_,λw3 hb3=>?_,hb2⟩
   ·rw[<-n.o];exact yP w3 d1 (eQ N y g ws) f1 v ((ir j).below hb3) l
   ·rw[<-o.o];exact yP w3 d2 (dM N y g ws) f2 v ((ir k).below hb3) hO
  have HK:=cg K;cases c1
  ·cases c2
   ·simp only [Bool.or_self,Bool.false_eq_true,if_false];exact yp
   ·simp only [Bool.false_or,if_true];exact yp
  ·simp only [Bool.true_or,if_true];go_enter func229,ntmps229;go_wp2_with fail;refine P.mono ?_;rintro e w1 ⟨rfl,hb1⟩
   have y1:=(hb1.cell (p:=av pw 0) ja).trans hc;go_wp2_with fail;refine(HK.o w1 hb1).mono ?_;rintro e w2 ⟨d1,f1,d2,f2,rfl,L1,L2,hb2⟩
   have eP:=hb1.trans (hb2.mono hb1.size)
   go_wp2_with fail;refine(L1.o w2 bZ).mono ?_;rintro e w3 ⟨rfl,hb3⟩
   have kO:=eP.trans (hb3.mono eP.size)
   go_wp2_with fail;go_ret2;exact⟨rfl,kO⟩
end Go.Proofs.YtjckpdepffejnaaGreatDoor
