import Derived.Test.YtpkjkjhanlbcoaaGreatJ21
open Array renaming size->I
open Bool renaming eq_false_iff->vT,false->Nb,true->Nc
open Go.Ending renaming returned->E
open Go.IntKind renaming i64->M4
open Go.Obj renaming cells->M5
open Go.Value renaming int->U
open Go.World renaming heap->M2
open Int renaming natCast_nonneg->la,toNat->M
open List renaming contains_iff_mem->bP,getD->X,length->L,length_cons->bZ,length_singleton->hW,map_append->iB,map_congr_left->mo,mem_append->bE,mem_iff_getElem->bY,mem_map->fo,mem_range->Mc,mem_singleton->bQ,range->k4
namespace Go.Proofs.YtpkjkjhanlbcoaaGreat
set_option maxRecDepth 100000
set_option maxHeartbeats 8000000
open Tryz
open Go.RowKit W
theorem vO {P:Prop}(h:P:=by go_wp2_with fail;refine fin _ ?_;intro w1 hb;obtain⟨c0,c1,hz⟩:=wZ hb;obtain⟨_,hf⟩:=oi hb;have f0:=hf w.heap.size 0 ac;have f1:=hf w.heap.size 1 ac;simp[go_sem] at f0 f1;go_wp2;exact a6 (v:=.agg #[ak 1,ak (-1)]) (by simp[results,results14,go_sem,c0,c1]) rfl ⟨rfl,(((b9.alloc b8 _).trans (hb.mono ac)).setCell b8 _).setCell b8 _⟩):P:=h
theorem Lr (n o:Int)(w:az)(h:n<16\/256<n\/o<0\/1024<o):
 Calls prog 14 #[ak n,ak o] w fun e w'=>e=E (.agg #[ak 1,ak (-1)])/\Below (I (M2 w)) w w':=by
 have fin:∀(R:Ending->az->Prop),(∀w1,Below (I (M2 (w.alloc (M5 #[U M4 0,U M4 0] 28)))) (w.alloc (M5 #[U M4 0,U M4 0] 28)) w1->R (E (.agg #[ak 1,ak (-1)])) w1)->Calls prog 39 #[ak 1,ak (-1)] (w.alloc (M5 #[U M4 0,U M4 0] 28)) R:=by
  intro R b;refine(Lm 1 (-1) _).mono ?_;rintro e w1 ⟨rfl,hb⟩
  exact b w1 hb
 by_cases c:n<16
 ·go_enter func14,ntmps14;exact vO
 by_cases d:256<n
 ·go_enter func14,ntmps14;exact vO
 by_cases f:o<0
 ·go_enter func14,ntmps14;exact vO
 have g:1024<o:=aa;go_enter func14,ntmps14;go_wp2_with fail;refine fin _ ?_;intro w1 hb;obtain⟨c0,c1,hz⟩:=wZ hb;obtain⟨_,hf⟩:=oi hb;have f0:=hf (I (M2 w)) 0 ac;have f1:=hf (I (M2 w)) 1 ac;simp[go_sem] at f0 f1;go_wp2;exact a6 (v:=.agg #[ak 1,ak (-1)]) (by simp[results,results14,go_sem,c0,c1]) rfl ⟨rfl,(((b9.alloc b8 _).trans (hb.mono ac)).setCell b8 _).setCell b8 _⟩
open Go.RowKit W Kp cq
theorem Lt (T:List cJ)(wt:List cf)(l:List _):ir (tI (L T)) (gX T) (gb T wt) ([],[]) (dL.eh T wt l).2 (dL.eh T wt l).1:=
 qy (ka _) (fB.start _) (by rw[lS];simp) _
theorem BW {T:List cJ}{wt:List cf}(hw:ns T wt)(l:List _):L (dL.eh T wt l).1=L l/\L (dL.eh T wt l).2.2<=10000/\∀nd∈(dL.eh T wt l).2.2,L nd.2<=20000:=by
 have hv:=Lt T wt l;refine⟨?_,?_,fun nd b=>?_⟩
 ·unfold dL.eh;rw[og,aZ]
 ·rw[hv.ok.len];refine aU hv.ok.le ?_;rw[lS];exact hw.l1
 ·obtain⟨i,hi,e⟩:=bY.1 b;obtain⟨c,q1,_,q3,_⟩:=hv.nw i (a5 _) (by rw[<-hv.ok.len];exact hi)
  rw[aN hi,e] at q1;have q1:nd=c:=by simpa using q1
  rw[q1,q3];unfold gb;have d:=hw.tl (M (X (dL.eh T wt l).2.1 i 0));have f:=hw.l2;rw[a7,aZ];split
  ·rw[aZ];have:=bm (fun e:cf=>e.1==X (dL.eh T wt l).2.1 i 0) wt;omega
  ·rw[List.length_nil];omega
def wv (m:Nat->Int)(v:Int×Int):Int:=if v.1=3 then ew 3 (m (M v.2)) else ew v.1 v.2
def we (m:Nat->Int)(e:cf):cf:=(ew 3 (m (M e.1)),ew 3 (m (M e.2)))
structure dK (T:List cJ)(v:Int×Int):Prop where
 t:v.1=3->0<=v.2/\cA T (M v.2)
 o:v.1≠3->vc v.1 v.2=0
structure gJ (T:List cJ)(e:cf):Prop where
 g0:0<=e.1
 g:cA T (M e.1)
 k:(X T (M e.1) t0).1=5
 h0:0<=e.2
 h:cA T (M e.2)
structure cE (a:Wc)(S:cw)(W:cn)(m:Nat->Int)(Y G:List Int):Prop where
 kv:eP a S.s Y G
 rl:L W.rs=12
 rv:∀v∈W.rs,dK W.T v
 fv:∀i,cA W.T i->∀v∈(X W.T i t0).2.1,dK W.T v
 rs:S.s.rs=W.rs.map (wv m)
 iT:∀i,cA W.T i->(X W.T i t0).2.2.1=Nb->m i∈Y
 old:∀i,cA W.T i->(X W.T i t0).2.2.1=Nc->m i∈G
 inj:∀i j,cA W.T i->cA W.T j->m i=m j->i=j
 gG:∀v,(v∈Y\/v∈G)->∃i,cA W.T i/\m i=v
 hd:∀i,cA W.T i->hc (X W.T i t0).1 (L (X W.T i t0).2.1)=0/\ld a.N S.s.y S.s.g S.s.ws (m i)=hw (X W.T i t0).1 (L (X W.T i t0).2.1)
 fd:∀i,cA W.T i->∀k:Nat,k<L (X W.T i t0).2.1->ld a.N S.s.y S.s.g S.s.ws (m i+1+k)=wv m (X (X W.T i t0).2.1 k (0,0))
 rg:S.r=W.rg.map (we m)
 gv:∀e∈W.rg,gJ W.T e
 wt:S.q=W.wt.map (we m)
 dF:∀e∈W.wt,gJ W.T e
 tl:∀i,L (X W.T i t0).2.1<=12
theorem vP {b:Type}(l:List b)(i j:Nat)(x c:b)(h:i<L l):X (l.set i x) j c=if i=j then x else X l j c:=by grind
theorem lJ {b c:Type}(f:b->c)(l:List b)(i:Nat)(d:b)(e:c)(h:i<L l):X (l.map f) i e=f (X l i d):=by grind
theorem i6 {m:Nat->Int}{v:Int×Int}(h:v.1=3):wv m v=ew 3 (m (M v.2)):=by grind [wv]
theorem m4 {m:Nat->Int}{v:Int×Int}(h:v.1≠3):wv m v=ew v.1 v.2:=by grind [wv]
theorem vQ {T:List cJ}{m b:Nat->Int}(h:∀i,cA T i->b i=m i){v:Int×Int}(hv:dK T v):wv b v=wv m v:=by
 by_cases c:v.1=3
 ·simp_all [i6,dK.t]
 grind [m4]
theorem BX {T:List cJ}{m b:Nat->Int}(h:∀i,cA T i->b i=m i){e:cf}(he:gJ T e):we b e=we m e:=by grind [gJ.g,gJ.h,we]
theorem dK.of {T:List cJ}{k n:Int}(b:k≠3)(h:vc k n=0):dK T (k,n):=⟨fun e=>aa,fun _=>h⟩
theorem dK.nil (T:List cJ):dK T (0,0):=dK.of ae ae
theorem dK.mono {T b:List cJ}(h:∀i,cA T i->cA b i){v:Int×Int}(hv:dK T v):dK b v:=⟨fun e=>⟨(hv.t e).1,h _ (hv.t e).2⟩,hv.o⟩
theorem Lw {N y g:Nat}{ws Y G:List Int}(h:em N y g ws Y G)(hy:y<=N){u v i j:Int}(b:u∈Y\/u∈G)(hv:v∈Y\/v∈G)(d:0<=i)(f:i<pf (ld N y g ws u))(j0:0<=j)(k:j<pf (ld N y g ws v))(e:u+1+i=v+1+j):u=v:=by
 rcases b with b|b<;>rcases hv with hv|hv
 ·rcases Int.lt_trichotomy u v with c|c|c
  ·have:=h.ty.apart u b v hv c;omega
  ·omega
  ·have:=h.ty.apart v hv u b c;omega
 ·have l:=nP h b d f;have m:=nQ h hv j0 k;omega
 ·have l:=nP h hv j0 k;have m:=nQ h b d f;omega
 grind [Ae]
section
variable {a:Wc}{S:cw}{W:cn}{m:Nat->Int}{Y G:List Int}
theorem cE.mem (h:cE a S W m Y G){i:Nat}(hi:cA W.T i):m i∈Y\/m i∈G:=by grind [iT,old]
theorem cE.bd (h:cE a S W m Y G)(hb:cO a S.s){i:Nat}(hi:cA W.T i):0<=m i/\m i<1280:=by
 have c:=hb.n1;have d:=hb.o1;have e:=hb.y1;have f:=hb.g1;rcases h.mem hi with b|b
 ·have:=h.kv.inv.full.i0 _ b;omega
 ·have:=h.kv.inv.full.io _ b;omega
theorem cE.word (h:cE a S W m Y G)(hb:cO a S.s){i:Nat}(hi:cA W.T i):vc 3 (m i)=0/\de (ew 3 (m i))=Nc/\cr (ew 3 (m i))=m i:=by grind [bd,oe,oc]
theorem cE.vt (h:cE a S W m Y G)(hb:cO a S.s){v:Int×Int}(hv:dK W.T v)(b:v.1=3):de (wv m v)=Nc/\cr (wv m v)=m (M v.2):=(i6 b▸(h.word hb (hv.t b).2).2)
theorem dK.no {T:List cJ}{v:Int×Int}(hv:dK T v)(b:v.1≠3):de (wv m v)=Nb:=by grind [m4,oc,o]
theorem cE.vR (h:cE a S W m Y G)(hb:cO a S.s){v:Int×Int}(hv:dK W.T v):de (wv m v)=(v.1==3):=by grind [vt,dK.no]
theorem cE.at (h:cE a S W m Y G)(hb:cO a S.s){v:Int×Int}(hv:dK W.T v)(ha:de (wv m v)=Nc):cr (wv m v)∈Y\/cr (wv m v)∈G:=by
 rw[h.vR hb hv] at ha;have b:v.1=3:=by grind
 rw[(h.vt hb hv b).2];exact h.mem (hv.t b).2
theorem cE.dec (h:cE a S W m Y G)(hb:cO a S.s){v:Int×Int}(hv:dK W.T v):dc (wv m v)=0/\dk (wv m v)=v.1/\dr (wv m v)=if v.1=3 then m (M v.2) else v.2:=by
 by_cases c:v.1=3
 ·rw[i6 c,aJ c,c];exact qw 3 _ (h.word hb (hv.t c).2).1
 grind [m4,qw,dK.o]
theorem cE.BY (h:cE a S W m Y G)(hb:cO a S.s){v u:Int×Int}(hv:dK W.T v)(b:dK W.T u)(e:wv m v=wv m u):v=u:=by
 obtain⟨_,k1,n1⟩:=h.dec hb hv;obtain⟨_,d,f⟩:=h.dec hb b;rw[e] at k1 n1;have gV:=k1.symm.trans d;rw[f] at n1;by_cases c:v.1=3
 ·have c2:=gV▸c
  rw[aJ c,aJ c2] at n1;have:=h.inj _ _ (b.t c2).2 (hv.t c).2 n1;have g:=(hv.t c).1;have i:=(b.t c2).1
  grind
 grind
theorem cE.parts (h:cE a S W m Y G){i:Nat}(hi:cA W.T i):pk (ld a.N S.s.y S.s.g S.s.ws (m i))=(X W.T i t0).1/\pf (ld a.N S.s.y S.s.g S.s.ws (m i))=L (X W.T i t0).2.1/\pc (ld a.N S.s.y S.s.g S.s.ws (m i))=0:=by grind [hd,qx]
theorem cE.tB (h:cE a S W m Y G)(hb:cO a S.s){v:Int×Int}(hv:dK W.T v):tB a.N S.s.y S.s.g S.s.ws (wv m v)=(v.1==3):=by
 by_cases c:v.1=3
 ·rw[(jE (O:=a.O) h.kv.inv.full hb.n1 hb.y1 hb.o1 hb.g1).2 ⟨(h.vt hb hv c).1,h.at hb hv (h.vt hb hv c).1⟩,c];rfl
 ·have e:(v.1==3)=Nb:=by grind
  rw[e,vT];intro b;have:=((jE (O:=a.O) h.kv.inv.full hb.n1 hb.y1 hb.o1 hb.g1).1 b).1
  grind [dK.no]
theorem cE.root (h:cE a S W m Y G){i:Nat}(hi:i<12):X S.s.rs i 0=wv m (X W.rs i (0,0))/\dK W.T (X W.rs i (0,0)):=by
 have hl:i<L W.rs:=(h.rl▸hi)
 exact⟨(h.rs▸(by grind)),h.rv _ (by grind)⟩
theorem cE.code (h:cE a S W m Y G)(hb:cO a S.s){A:Nat}(b:A<12)(I:Int):eO a.N S.s.y S.s.g S.s.ws (X S.s.rs A 0) I=W.gc A I:=by
 obtain⟨e,hv⟩:=h.root b;rw[e];unfold eO cn.gc cn.th;rw[h.tB hb hv];by_cases c:(X W.rs A (0,0)).1=3
 ·have d:((X W.rs A (0,0)).1==3)=Nc:=by grind
  obtain⟨z,al⟩:=hv.t c;obtain⟨f,g,_⟩:=h.parts al;rw[d,aJ rfl,aJ c,(h.vt hb hv c).2,h.kv.inv.full.stands hb.y1 (h.mem al),f,g]
  grind [t0]
 grind
theorem cE.put (h:cE a S W m Y G)(hb:cO a S.s)(k:Nat){v:Int×Int}(hv:dK W.T v):cE a ⟨{S.s with rs:=S.s.rs.set k (wv m v)},S.r,S.q⟩ {W with rs:=W.rs.set k v} m Y G:=
 {
  kv:=h.kv.root k _ (fun ha=>h.at hb hv ha),rl:=by grind [rl]
  rv:=fun u b=>(by grind [rv]),fv:=h.fv
  rs:=by rw[h.rs,List.map_set]
  iT:=h.iT,old:=h.old,inj:=h.inj,gG:=h.gG,hd:=h.hd,fd:=h.fd,rg:=h.rg,gv:=h.gv,wt:=h.wt,dF:=h.dF,tl:=h.tl}
theorem cE.beside (h:cE a S W m Y G){r q:List cf}(hr:∀e∈r,gJ W.T e)(hq:∀e∈q,gJ W.T e):cE a ⟨S.s,r.map (we m),q.map (we m)⟩ {W with rg:=r,wt:=q} m Y G:=
 {kv:=h.kv,rl:=h.rl,rv:=h.rv,fv:=h.fv,rs:=h.rs,iT:=h.iT,old:=h.old,inj:=h.inj,gG:=h.gG,hd:=h.hd,fd:=h.fd,rg:=rfl,gv:=hr,wt:=rfl,dF:=hq,tl:=h.tl}
theorem Lx {T:List cJ}{i:Nat}{t:cJ}(hi:i<L T)(hd:t.2.2.2=(X T i t0).2.2.2)(j:Nat):cA (T.set i t) j↔cA T j:=by grind [cA]
theorem cE.store (h:cE a S W m Y G)(hb:cO a S.s){i k:Nat}(hi:cA W.T i)(hk:k<L (X W.T i t0).2.1){v:Int×Int}(hv:dK W.T v){ws M:List Int}(ew:ws=S.s.ws.set (m i+1+k).toNat (wv m v))(l:eP a {S.s with ws:=ws,M:=M} Y G):
 cE a ⟨{S.s with ws:=ws,M:=M},S.r,S.q⟩ {W with T:=W.T.set i ((X W.T i t0).1,(X W.T i t0).2.1.set k v,(X W.T i t0).2.2)} m Y G:=by
 have al:∀j,cA (W.T.set i ((X W.T i t0).1,(X W.T i t0).2.1.set k v,(X W.T i t0).2.2)) j↔cA W.T j:=Lx hi.1 rfl;have gt:∀j,X (W.T.set i ((X W.T i t0).1,(X W.T i t0).2.1.set k v,(X W.T i t0).2.2)) j t0=if i=j then((X W.T i t0).1,(X W.T i t0).2.1.set k v,(X W.T i t0).2.2) else X W.T j t0:=fun j=>vP _ _ _ _ _ hi.1
 have gl:∀j,L (X (W.T.set i ((X W.T i t0).1,(X W.T i t0).2.1.set k v,(X W.T i t0).2.2)) j t0).2.1=L (X W.T j t0).2.1:=fun j=>by grind
 have g1:∀j,(X (W.T.set i ((X W.T i t0).1,(X W.T i t0).2.1.set k v,(X W.T i t0).2.2)) j t0).1=(X W.T j t0).1:=fun j=>by grind
 have g2:∀j,(X (W.T.set i ((X W.T i t0).1,(X W.T i t0).2.1.set k v,(X W.T i t0).2.2)) j t0).2.2=(X W.T j t0).2.2:=fun j=>by grind
 obtain⟨s,t,_⟩:=h.parts hi;have k1:(k:Int)<pf (ld a.N S.s.y S.s.g S.s.ws (m i)):=aa;obtain⟨_,o⟩:=h.kv.inv.full.set hb.l1 hb.y1 hb.g1 (h.mem hi) aa k1;rw[<-ew] at o;have p:∀u,dK W.T u->_:=fun u d=>d.mono (fun j b=>(al j).2 b)
 have g:∀e,gJ W.T e->gJ (W.T.set i ((X W.T i t0).1,(X W.T i t0).2.1.set k v,(X W.T i t0).2.2)) e:=fun e he=>⟨he.g0,(al _).2 he.g,by grind [gJ.k],he.h0,(al _).2 he.h⟩
 have w:=jV (kW h.kv.inv.full (h.mem hi) (la k) k1) hb.y1 hb.g1;exact
 {
  kv:=l,rl:=h.rl,rv:=fun u d=>p u (h.rv u d)
  fv:=fun j b u d=>by grind [fv]
  rs:=h.rs
  iT:=fun j b e=>(by grind [iT])
  old:=fun j b e=>(by grind [old])
  inj:=fun j q b c e=>h.inj j q (by grind) (by grind) e
  gG:=fun u d=>by grind [gG]
  hd:=fun j b=>by grind [mem,hd]
  fd:=fun j b n hn=>by
   have c:=(al j).1 b;have hn:=hn;rw[gl] at hn;obtain⟨_,x,_⟩:=h.parts c;have n1:(n:Int)<pf (ld a.N S.s.y S.s.g S.s.ws (m j)):=aa;have f:=kW h.kv.inv.full (h.mem c) aa n1;have B:=jV f hb.y1 hb.g1;rw[eA f,ew,mG _ _ _ _ (by grind [cO.l1]),<-eA f,h.fd j c n hn,gt];by_cases e:i=j
   ·grind
   ·rw[aI e,aI (fun F=>e ?_)];exact h.inj i j hi c (Lw h.kv.inv.full hb.y1 (h.mem hi) (h.mem c) aa k1 aa n1 aa)
  rg:=h.rg,gv:=fun e he=>g e (h.gv e he),wt:=h.wt,dF:=fun e he=>g e (h.dF e he)
  tl:=fun j=>by grind [tl]}
theorem BZ {T:List cJ}{t:cJ}(ht:t.2.2.2=Nb)(j:Nat):cA (T++[t]) j↔cA T j\/j=L T:=by
 unfold cA
 grind
theorem n8 {b:Type}(l:List b)(t c:b)(j:Nat)(h:j<L l):X (l++[t]) j c=X l j c:=by grind
theorem vS {b:Type}(l:List b)(t c:b):X (l++[t]) (L l) c=t:=by grind
def n9 (m:Nat->Int)(n:Nat)(y:Int)(i:Nat):Int:=if i=n then y else m i
theorem cE.new (h:cE a S W m Y G){kd:Int}{f:List _}(hk:hc kd (L f)=0)(x:∀v∈f,dK W.T v){c:eE}(er:c.rs=S.s.rs)(B:c.y<=a.N)(o:eP a c (Y++[(S.s.y:Int)]) G)
 (F:ld a.N c.y c.g c.ws S.s.y=hw kd (L f))(N:∀k:Nat,k<L f->ld a.N c.y c.g c.ws (S.s.y+1+k)=wv m (X f k (0,0)))
 (h0:∀v,(v∈Y\/v∈G)->ld a.N c.y c.g c.ws v=ld a.N S.s.y S.s.g S.s.ws v)(t:∀v,(v∈Y\/v∈G)->∀k:Nat,(k:Int)<pf (ld a.N S.s.y S.s.g S.s.ws v)->ld a.N c.y c.g c.ws (v+1+k)=ld a.N S.s.y S.s.g S.s.ws (v+1+k)):
 cE a ⟨c,S.r,S.q⟩ {W with T:=W.T++[(kd,f,Nb,Nb)]} (n9 m (L W.T) S.s.y) (Y++[(S.s.y:Int)]) G:=by
 have al:∀j,cA (W.T++[(kd,f,Nb,Nb)]) j↔cA W.T j\/j=L W.T:=BZ rfl;have l:∀i,cA W.T i->n9 m (L W.T) S.s.y i=m i:=fun i hi=>by unfold n9;rw[aI (by have:=hi.1;omega)]
 have ab:n9 m (L W.T) S.s.y (L W.T)=S.s.y:=by grind [n9]
 have q:∀u,dK W.T u->_:=fun u g=>g.mono (fun j d=>(al j).2 (aM d))
 have s:∀e,gJ W.T e->gJ (W.T++[(kd,f,Nb,Nb)]) e:=fun e he=>⟨he.g0,(by grind [gJ.g]),(n8 _ _ _ _ he.g.1▸he.k),he.h0,(by grind [gJ.h])⟩
 have ad:∀j,cA W.T j->m j≠S.s.y:=fun j d e=>by
  rcases h.mem d with b|b
  ·have:=h.kv.inv.full.i0 _ b;omega
  ·have w:(S.s.y:Int)∈Y++[(S.s.y:Int)]:=ac;have n1:=o.inv.full.i0 _ w;have ag:=o.inv.full.io _ b;omega
 exact
 {
  kv:=o,rl:=h.rl,rv:=fun u g=>q u (h.rv u g)
  fv:=fun j d u g=>by
   rcases(al j).1 d with b|b
   ·have g:=g;rw[n8 _ _ _ _ b.1] at g;exact q u (h.fv j b u g)
   ·simp_all
  rs:=by show c.rs=W.rs.map _;rw[er,h.rs];exact mo (fun v hv=>(vQ l (h.rv v hv)).symm)
  iT:=fun j d e=>by grind [iT]
  old:=fun j d e=>by
   have e:=e;rcases(al j).1 d with b|b
   all_goals grind [old]
  inj:=fun i j hi d e=>by
   rcases(al i).1 hi with b|b<;>rcases(al j).1 d with p|p
   ·rw[l i b,l j p] at e;exact h.inj i j b p e
   all_goals grind
  gG:=fun v hv=>by grind [gG]
  hd:=fun j d=>by
   show hc _ _=0/\ld a.N c.y c.g c.ws _=hw _ _;rcases(al j).1 d with b|b
   all_goals grind [n8,mem,hd]
  fd:=fun j d k n=>by
   have n:=n;show ld a.N c.y c.g c.ws _=wv _ _;rcases(al j).1 d with b|b
   ·rw[n8 _ _ _ _ b.1] at n⊢;rw[l j b,t _ (h.mem b) k (by grind [parts]),h.fd j b k n];exact(vQ l (by grind [fv])).symm
   grind [vQ,getD_in]
  rg:=by show S.r=W.rg.map _;rw[h.rg];exact mo (fun e he=>(BX l (h.gv e he)).symm)
  gv:=fun e he=>s e (h.gv e he)
  wt:=by show S.q=W.wt.map _;rw[h.wt];exact mo (fun e he=>(BX l (h.dF e he)).symm)
  dF:=fun e he=>s e (h.dF e he)
  tl:=fun j=>by
   show L (X (W.T++[(kd,f,Nb,Nb)]) j t0).2.1<=12;rcases Nat.lt_trichotomy j (L W.T) with b|b|b
   ·grind [n8,tl]
   ·rw[b,vS];have:=jo _ _ hk
    grind
   ·rw[aL,List.getElem?_eq_none (by simp;omega)];simp[t0]}
end
def gU (P:Nat->Bool)(z:Nat->Nat):Nat->Nat
 |0=>0
 |n+1=>gU P z n+if P n=Nc then z n else 0
theorem B0 {P:Nat->Bool}{z:Nat->Nat}{m:Nat->Int}{f:Int->Nat}:∀n,(∀i,i<n->P i=Nc->f (m i)=z i)->gU P z n=h_ f (((k4 n).filter P).map m)
 |0,_=>by rfl
 |n+1,h=>by
  rw[gU,B0 n (fun i hi hp=>h i aa hp),List.range_succ,List.filter_append,iB,HI]
  grind [h_]
theorem vU {P:Nat->Bool}{z:Nat->Nat}{m:Nat->Int}{f:Int->Nat}{n:Nat}{l:List Int}(b:∀i,i<n->P i=Nc->f (m i)=z i)(hn:l.Nodup)(inj:∀i j,i<n->j<n->P i=Nc->P j=Nc->m i=m j->i=j)(hl:∀v,v∈l↔∃i,i<n/\P i=Nc/\m i=v):gU P z n=h_ f l:=by
 rw[B0 n b];have c:∀v,v∈((k4 n).filter P).map m↔v∈l:=fun v=>by grind
 have nd:(((k4 n).filter P).map m).Nodup:=by grind [List.Pairwise.imp_of_mem,List.nodup_range]
 exact Nat.le_antisymm (by simp_all [Aa]) (by simp_all [Aa])
theorem B3 {P Q:Nat->Bool}{z:Nat->Nat}:∀n,(∀i,i<n->P i=Nc->Q i=Nc)->gU P z n<=gU Q z n
 |0,_=>aG _
 |n+1,h=>by
  have b:=B3 (z:=z) n (fun i hi=>h i aa)
  grind [gU]
theorem B4 {P Q R:Nat->Bool}{z:Nat->Nat}:∀n,(∀i,i<n->R i=(P i||Q i)/\(P i&&Q i)=Nb)->gU R z n=gU P z n+gU Q z n
 |0,_=>rfl
 |n+1,h=>by
  obtain⟨b,c⟩:=h n aa;rw[gU,gU,gU,(B4 n (fun i hi=>h i aa)),b]
  grind
def i7 (T:List cJ)(i:Nat):Nat:=1+L (X T i t0).2.1
def jS (T:List cJ)(i:Nat):Bool:=!(X T i t0).2.2.2&&!(X T i t0).2.2.1
def oB (T:List cJ)(i:Nat):Bool:=!(X T i t0).2.2.2&&(X T i t0).2.2.1
theorem B5 (T:List cJ):∀n,n<=L T->eI (T.take n)=((gU (jS T) (i7 T) n:Int),(gU (oB T) (i7 T) n:Int))
 |0,_=>by rfl
 |n+1,h=>by
  rw[g9 T n aa t0,xl,B5 T n aa];show jx _ _=(((gU (jS T) (i7 T) n+if jS T n=Nc then i7 T n else 0:Nat):Int),((gU (oB T) (i7 T) n+if oB T n=Nc then i7 T n else 0:Nat):Int))
  grind [jx,jS,oB,i7]
theorem B6 (T:List cJ):eI T=((gU (jS T) (i7 T) (L T):Int),(gU (oB T) (i7 T) (L T):Int)):=by
 have:=B5 T (L T) aa
 grind
theorem vV (T:List cJ)(L:List Bool):∀n,iV T L n=(gU (fun i=>X L i Nb) (i7 T) n:Int)
 |0=>rfl
 |n+1=>by
  rw[iV,vV T L n,gU]
  grind [i7]
section
variable {a:Wc}{S:cw}{W:cn}{m:Nat->Int}{Y G:List Int}
theorem cE.size (h:cE a S W m Y G){i:Nat}(hi:cA W.T i):nU (ld a.N S.s.y S.s.g S.s.ws) (m i)=i7 W.T i:=by grind [parts,nU,i7]
theorem m5 {T:List cJ}{i:Nat}(b:i<L T)(c:(X T i t0).2.2.2=Nb):cA T i:=⟨b,c⟩
theorem cE.us (h:cE a S W m Y G)(hb:cO a S.s):eI W.T=((S.s.y:Int),(S.s.g:Int)):=by
 have g:=hb.y1;have k:gU (jS W.T) (i7 W.T) (L W.T)=h_ (nU (ld a.N S.s.y S.s.g S.s.ws)) Y:=by
  refine vU (m:=m) (fun i hi hp=>?_) h.kv.inv.full.ty.nodup (fun i j hi b hp hq e=>?_) (fun v=>⟨fun hv=>?_,?_⟩)
  ·grind [size,m5,jS]
  ·unfold jS at hp hq;simp at hp hq;exact h.inj i j (m5 hi hp.1) (m5 b hq.1) e
  ·obtain⟨i,hi,e⟩:=h.gG v (by grind)
   refine⟨i,hi.1,?_,e⟩
   unfold jS;rw[hi.2];cases c:(X W.T i t0).2.2.1
   ·rfl
   ·have d:=h.kv.inv.full.io _ (h.old i hi c)
    have f:=h.kv.inv.full.i0 v hv;omega
  ·rintro⟨i,hi,hp,e⟩
   unfold jS at hp;simp at hp;rw[<-e];exact h.iT i (m5 hi hp.1) hp.2
 have l:gU (oB W.T) (i7 W.T) (L W.T)=h_ (nU (ld a.N S.s.y S.s.g S.s.ws)) G:=by
  refine vU (m:=m) (fun i hi hp=>?_) h.kv.inv.full.eH.nodup (fun i j hi b hp hq e=>?_) (fun v=>⟨fun hv=>?_,?_⟩)
  ·grind [size,m5,oB]
  ·unfold oB at hp hq;simp at hp hq;exact h.inj i j (m5 hi hp.1) (m5 b hq.1) e
  ·obtain⟨i,hi,e⟩:=h.gG v (by grind)
   refine⟨i,hi.1,?_,e⟩
   unfold oB;rw[hi.2];cases c:(X W.T i t0).2.2.1
   ·have d:=h.kv.inv.full.i0 _ (h.iT i hi c)
    have f:=h.kv.inv.full.io v hv;omega
   ·rfl
  ·rintro⟨i,hi,hp,e⟩
   unfold oB at hp;simp at hp;rw[<-e];exact h.old i (m5 hi hp.1) hp.2
 have n:=h.kv.inv.full.ty.sum;have o:=h.kv.inv.full.eH.sum
 grind [B6]
end
theorem cE.start (a:Wc)(n o:Nat):cE a (fG n o).1 (fG n o).2 (fun _=>0) [] []:=by
 have no:∀i,¬cA (fG n o).2.T i:=fun i hi=>absurd hi.1 (Nat.not_lt_zero i)
 have c:∀x∈(fG n o).1.s.rs,de x=Nc->cr x∈([]:List Int)\/cr x∈([]:List Int):=fun x b ha=>by
  have b:x∈tw 2 12:=b
  simp_all [AF,tw]
 exact
 {
  kv:=⟨⟨em.start,c,fun v hv=>(by simp_all)⟩,fun v hv=>(by grind)⟩
  rl:=af,rv:=fun v hv=>(List.eq_of_mem_replicate hv▸dK.nil _)
  fv:=fun i hi=>(by grind),rs:=af
  iT:=fun i hi=>(by grind),old:=fun i hi=>(by grind),inj:=fun i _ hi=>(by grind)
  gG:=fun v hv=>by simp_all
  hd:=fun i hi=>(by grind),fd:=fun i hi=>(by grind),rg:=rfl,gv:=fun e he=>(by cases he),wt:=rfl,dF:=fun e he=>(by cases he)
  tl:=fun i=>by simp[fG,t0]}
section
variable {a:Wc}{S:cw}{W:cn}{m:Nat->Int}{Y G:List Int}
theorem cE.ox (h:cE a S W m Y G)(c:L W.T<=10000)(d:L W.rg<=1000)(b:L W.wt<=1000):fK W:=
 {
  iv:=⟨fun i hi hk=>by have:=pn _ _ (h.hd i hi).1;omega,fun i hi v hv b=>(h.fv i hi v hv).t b,fun e he=>⟨(h.dF e he).h0,(h.dF e he).h⟩,h.tl⟩
  rv:=fun v hv b=>(h.rv v hv).t b
  gv:=fun e he=>⟨⟨(h.gv e he).g0,(h.gv e he).g⟩,(h.gv e he).h0,(h.gv e he).h⟩
  wg:=fun e he=>⟨(h.dF e he).g0,(h.dF e he).g⟩
  tl:=c,gl:=d,wl:=b}
theorem cE.iv (h:cE a S W m Y G):ey W.T W.wt:=
 ⟨fun i hi hk=>by have:=pn _ _ (h.hd i hi).1;omega,fun i hi v hv b=>(h.fv i hi v hv).t b,fun e he=>⟨(h.dF e he).h0,(h.dF e he).h⟩,h.tl⟩
theorem cE.first (h:cE a S W m Y G)(mj:Bool):gW W.T (kc W.T W.rs mj):=
 ⟨xj _ _ _,fun k hk=>by
  obtain⟨c,b⟩:=(kK _ _ _ _).1 hk;rcases b with⟨_,b,_⟩|⟨v,hv,d,e⟩
  ·exact⟨c,b⟩
  ·rw[<-e];exact((h.rv v hv).t d).2⟩
theorem cE.field (h:cE a S W m Y G){i:Nat}(hi:cA W.T i){v:Int×Int}(hv:v∈(X W.T i t0).2.1):∃k:Nat,k<L (X W.T i t0).2.1/\X (X W.T i t0).2.1 k (0,0)=v/\ld a.N S.s.y S.s.g S.s.ws (m i+1+k)=wv m v:=by
 obtain⟨k,hk,e⟩:=bY.1 hv;have b:X (X W.T i t0).2.1 k (0,0)=v:=by rw[aL,aN hk,e];rfl
 exact⟨k,hk,b,by rw[h.fd i hi k hk,b]⟩
theorem cE.two (h:cE a S W m Y G){i:Nat}(hi:cA W.T i)(hk:(X W.T i t0).1=1\/(X W.T i t0).1=3\/(X W.T i t0).1=4):L (X W.T i t0).2.1=2:=by have:=pn _ _ (h.hd i hi).1;omega
end
structure lK (k:ck)(z:C0)(C:Int->Prop):Prop where
 old:∀b∈z.G,C b
 p:∀c,(c∈k.T\/c∈z.G)->C c->pk (k.l0 z c)=1\/pk (k.l0 z c)=2->∀i:Nat,(i:Int)<pf (k.l0 z c)->k.cQ (k.l0 z (c+1+i))=Nc->C (cr (k.l0 z (c+1+i)))
 w:∀c,(c∈k.T\/c∈z.G)->C c->pk (k.l0 z c)=3->k.cQ (k.l0 z (c+1+1))=Nc->C (cr (k.l0 z (c+1+1)))
 e:∀c,(c∈k.T\/c∈z.G)->C c->pk (k.l0 z c)=4->(k.cQ (k.l0 z (c+1+0))=Nc->C (cr (k.l0 z (c+1+0))))->k.cQ (k.l0 z (c+1+1))=Nc->C (cr (k.l0 z (c+1+1)))
def lL (k:ck)(C:Int->Prop)(q:List cf):Prop:=∀e∈q,(k.cQ e.1=Nc->C (cr e.1))->k.cQ e.2=Nc->C (cr e.2)
def dm (k:ck)(C:Int->Prop)(s:ct):Prop:=∀a∈k.T,s.f a≠-1->C a
section
variable {k:ck}{z:C0}{s t:ct}{H D:List Int}{C:Int->Prop}
theorem n_ {x:Int}(h:k.cQ x=Nc):cr x∈k.T:=by unfold ck.cQ at h;simp at h;exact h.2
theorem m6 {x:Int}(h:k.ls s x=Nc):k.cQ x=Nc:=by unfold ck.ls at h;rw[bB] at h;exact h.1
theorem dm.br (h:dm k C s)(x:Int)(f:k.cQ x=Nc->C (cr x)):dm k C (k.br s x).2:=by
 unfold ck.br;split
 ·rename_i c;intro b hb d;by_cases e:b=cr x
  ·rw[e];exact f (m6 c)
  ·refine h b hb ?_;have g:(k.cp s (cr x)).f b=s.f b:=by unfold ck.cp hG;dsimp only;rw[aI e]
   have d:=d;rw[g] at d;exact d
 ·exact h
theorem dJ.sv (h:dJ k z s H){a b i:Int}(ho:k.or z s a b)(c:0<=i)(d:i<pf (k.l0 z a))(hl:k.cQ (k.ld s (b+1+i))=Nc):k.ld s (b+1+i)=k.l0 z (a+1+i):=by
 rcases h.fd a b ho i c d with e|⟨y1,f,g⟩
 ·exact e
 ·have hb:=h.jD (h.fh _ (n_ y1) f)
  have n1:=h.ci.hN';have j:=h.ci.hO;have l:=h.ci.hg;rw[g,nT h.ci hb.1 aa] at hl;cases hl
theorem dm.kf (h:dm k C s)(mi:dJ k z s H){a b i:Int}(ho:k.or z s a b)(c:0<=i)(d:i<pf (k.l0 z a))(f:k.cQ (k.l0 z (a+1+i))=Nc->C (cr (k.l0 z (a+1+i)))):dm k C (k.kf s (b+1+i)):=
 h.br _ (fun hy=>by have e:=mi.sv ho c d hy;rw[e] at hy;rw[e];exact f hy)
theorem dm.gQ (h:dm k C s)(mi:dJ k z s H){a b:Int}(ho:k.or z s a b)(c:∀i:Nat,(i:Int)<pf (k.l0 z a)->k.cQ (k.l0 z (a+1+i))=Nc->C (cr (k.l0 z (a+1+i)))):∀n:Nat,(n:Int)<=pf (k.l0 z a)->dm k C (k.gQ s b n)
 |0,_=>h
 |n+1,hn=>by obtain⟨e,m1,d,_⟩:=mi.gQ ho n aa;exact(dm.gQ h mi ho c n aa).kf m1 (d.or ho) aa aa (c n aa)
theorem vW {a b:Int}(ho:k.or z s a b):a∈k.T\/a∈z.G:=by
 rcases ho with⟨e,h⟩|⟨h,_⟩
 ·simp_all
 ·exact aM h
theorem dm.or (h:dm k C s)(d:lK k z C){a b:Int}(ho:k.or z s a b):C a:=by
 rcases ho with⟨e,c⟩|⟨c,f,g⟩
 ·rw[e];exact d.old b c
 ·exact h a c ((f▸g))
theorem dm.lk (h:dm k C s)(mi:dJ k z s H)(c:lK k z C){a b:Int}(ho:k.or z s a b):dm k C (k.lk s b):=by
 have ha:=h.or c ho;have hm:=vW ho;have e:=mi.hd a b ho;have hb:=mi.bd (mi.mem ho)
 have l:=dv (k.ld s b)
 unfold ck.lk;by_cases c1:pk (k.ld s b)=1\/pk (k.ld s b)=2
 ·rw[aJ c1];exact h.gQ mi ho (c.p a hm ha (by simp_all)) _ (by rw[<-e];omega)
 ·rw[aI c1];by_cases c3:pk (k.ld s b)=3
  ·rw[aJ c3];have m:=iR hb.2.2 (aK (aM c3))
   have hN:=mi.ci.hN';have hO:=mi.ci.hO;have hg:=mi.ci.hg;have g:=mi.turn (s.wk++[b]) s.ep s.rs s.nx (fun x i=>by
    rcases bE.1 i with d|d
    ·exact mi.ci.i1 x d
    ·rw[bQ] at d;omega) mi.ci.iJ mi.ci.iw mi.ci.jW
   have j:dm k C {s with wk:=s.wk++[b],ep:=s.ep,rs:=s.rs,nx:=s.nx}:=h;have f:=j.kf g ho aa (by simp_all) (c.w a hm ha ((e▸c3)))
   have ea:b+1+1=b+2:=aa;rw[ea] at f;exact f
  ·rw[aI c3];split
   ·exact h
   ·exact h
theorem dm.lb (b:lK k z C):∀(n:Nat){s:ct}{H:List Int},LI k z s H D->dm k C s->dm k C (k.lb n s)
 |0,_,_,_,h=>h
 |n+1,s,H,l,h=>by
  unfold ck.lb;cases hn:hB k.N s.g s.nx
  ·simp_all
  ·have hb:=jU hn;obtain⟨a,ho⟩:=l.mi.from (bq z.G (l.bo.resolve_right aa))
   obtain⟨c,m1,_,_⟩:=l.lu hn;exact dm.lb b n m1 (h.lk l.mi b ho)
theorem dm.key (h:dm k C s)(mi:dJ k z s H){a b:Int}(ho:k.or z s a b)(c:0<pf (k.l0 z a))(hl:k.ls s (k.ld s (b+1))=Nb)(hy:k.cQ (k.l0 z (a+1+0))=Nc):C (cr (k.l0 z (a+1+0))):=by
 refine h _ (n_ hy) ?_;have d:b+1+0=b+1:=aa;rcases mi.fd a b ho 0 aa c with e|⟨y1,f,_⟩
 ·rw[d] at e;intro g;unfold ck.ls at hl;rw[e,hy,g] at hl;simp at hl
 ·exact f
theorem dm.rI (h:dm k C s)(l:LI k z s H D)(c:lK k z C){b:Int}(hb:b∈z.G++H)(f:pk (k.ld s b)=4)(d:k.ls s (k.ld s (b+1))=Nb):dm k C (k.kf (k.kf s (b+1)) (b+2)):=by
 obtain⟨a,o⟩:=l.mi.from hb;have n:=iR (l.mi.bd hb).2.2 (aK (aK f))
 have p:=l.mi.hd a b o;have g:b+1+0=b+1:=aa;have j:b+1+1=b+2:=aa;obtain⟨q,m1,m,_,_⟩:=l.mi.kf (i:=0) o aa (by simp_all)
 have e:=(h.kf l.mi o aa (by simp_all) (h.key l.mi o (by simp_all) d)).kf m1 (m.or o) aa (by simp_all) (c.e a (vW o) (h.or c o) (by simp_all) (h.key l.mi o (by simp_all) d))
 rw[g,j] at e;exact e
theorem dm.i3 (c:lK k z C):∀(l left:List Int){s:ct}{H:List Int},LI k z s H D->(∀a∈l,a∈z.G++H/\pk (k.ld s a)=4)->dm k C s->dm k C (l.foldl k.cV (left,s)).2
 |[],_,_,_,_,_,h=>h
 |b::l,left,s,H,li,hl,h=>by
  rw[a_];cases hls:k.ls s _
  ·have d:k.cV (left,s) b=(left,k.kf (k.kf s (b+1)) (b+2)):=by unfold ck.cV;rw[aI (by rw[hls];simp)]
   rw[d];obtain⟨e,f⟩:=hl b ac;obtain⟨m,m1,g,i,n,o⟩:=li.rI e f;exact dm.i3 c l left m1 (fun a ha=>by
    obtain⟨n1,j⟩:=hl a (aW _ ha)
    exact⟨Am i n1,(g.hd li.mi m1.mi n1▸j)⟩) (h.rI li c e f hls)
  ·have d:k.cV (left,s) b=(left++[b],s):=by unfold ck.cV;rw[aJ hls]
   rw[d];exact dm.i3 c l _ li (fun a ha=>hl a (aW _ ha)) h
theorem dm.kv (b:lK k z C)(l:LI k z s H D)(w:dU k z s H)(h:dm k C s):dm k C (k.kv s).2:=dm.i3 b s.ep [] l w.ep h
theorem dm.kU:∀(l:List Nat)(t:(ct×List cf)×Bool)(H:List Int),LI k z t.1.1 H D->dU k z t.1.1 H->(∀i∈l,i<L t.1.2)->lL k C t.1.2->dm k C t.1.1->dm k C (l.foldl (dI k.al k.br) t).1.1/\lL k C (l.foldl (dI k.al k.br) t).1.2
 |[],_,_,_,_,_,q,h=>⟨h,q⟩
 |i::l,t,H,li,w,hl,q,h=>by
  rw[a_];by_cases c:(k.al t.1.1 (X t.1.2 i (0,0)).2||!k.al t.1.1 (X t.1.2 i (0,0)).1)=Nc
  ·have b:dI k.al k.br t i=t:=by unfold dI;rw[aJ c]
   rw[b];exact dm.kU l t H li w (fun j e=>hl j (aW _ e)) q h
  ·have b:dI k.al k.br t i=(((k.br t.1.1 (X t.1.2 i (0,0)).2).2,t.1.2.set i ((X t.1.2 i (0,0)).1,(k.br t.1.1 (X t.1.2 i (0,0)).2).1)),Nc):=by unfold dI;rw[aI c]
   obtain⟨f,l1,w1,g,_⟩:=da.br _ H li w;obtain⟨_,_,_,y1,_,_,_⟩:=li.mi.br _;have c2:k.al t.1.1 (X t.1.2 i (0,0)).1=Nc:=by simp_all
   have hg:k.cQ (X t.1.2 i (0,0)).1=Nc->_:=fun hy=>h _ (n_ hy) (fun d=>by unfold ck.al ck.ls at c2;rw[hy,d] at c2;simp at c2)
   rw[b];refine dm.kU l _ f l1 w1 (fun j e=>?_) ?_ (h.br _ (q _ (getD_in (hl i ac)) hg))
   ·simp_all
   ·intro d hd;have hd:=hd;rcases List.mem_or_eq_of_mem_set hd with hd|rfl
    ·exact q d hd
    ·intro _ hy;rw[y1] at hy;cases hy
theorem dm.wa {t:ct×List cf}(l:LI k z t.1 H D)(w:dU k z t.1 H)(q:lL k C t.2)(h:dm k C t.1):dm k C (k.wa t).1.1/\lL k C (k.wa t).1.2:=
 dm.kU _ (t,Nb) H l w (fun _ hi=>Mc.1 hi) q h
theorem dm.c_ (b:lK k z C):∀(n:Nat)(t:ct×List cf)(H:List Int),LI k z t.1 H D->dU k z t.1 H->lL k C t.2->dm k C t.1->dm k C (k.c_ n t).1/\lL k C (k.c_ n t).2
 |0,_,_,_,_,q,h=>⟨h,q⟩
 |n+1,t,H,l,w,q,h=>by
  obtain⟨g,l1,w1,o,_⟩:=da.lb (k.O+1) H l w;obtain⟨d,l2,c,p,_⟩:=da.kv g l1 w1;have e:=dm.kv b l1 w1 (dm.lb b (k.O+1) l h)
  obtain⟨i,j,m,_,_⟩:=da.wa ((k.kv _).2,t.2) d l2 c;obtain⟨f,q3⟩:=dm.wa (t:=((k.kv _).2,t.2)) l2 c q e;unfold ck.c_;split
  ·exact dm.c_ b n ((k.kv _).2,t.2) d l2 c q e
  ·split
   ·exact dm.c_ b n _ i j m q3 f
   ·exact⟨f,q3⟩
theorem dm.ke (b:lK k z C){t:ct×List cf}(l:LI k z t.1 H D)(w:dU k z t.1 H)(q:lL k C t.2)(h:dm k C t.1)(x:Int)(c:k.cQ x=Nc->C (cr x)):dm k C (k.ke t x).2.1/\lL k C (k.ke t x).2.2:=by obtain⟨d,l1,w1,_,_⟩:=da.br x H l w;exact dm.c_ b _ ((k.br t.1 x).2,t.2) d l1 w1 q (h.br x c)
theorem dm.cP (l:LI k z s H D)(h:dm k C s)(hr:∀i,i<L s.rs->k.cQ (X s.rs i 0)=Nc->C (cr (X s.rs i 0))):∀n,n<=L s.rs->dm k C (k.cP s n)
 |0,_=>h
 |n+1,hn=>by
  obtain⟨_,_,_,_,_,_,b,_⟩:=LI.cP l n aa;have:=(dm.cP l h hr n aa).br (X (k.cP s n).rs n 0) (((b n b8)▸hr n aa))
  exact this
theorem dm.lm (e:lK k z C)(c:Int)(M:List Int)(hz:el (k.l0 z) ((k.N:Int)+z.g) k.N z.G):∀(l:List Int){s:ct}{H D:List Int},LI k z s H D->(∀a∈l,a∈z.G\/(k.N:Int)+z.g<=a)->dm k C s->dm k C (l.foldl (k.gR ((k.N:Int)+z.g) c M) s)
 |[],_,_,_,_,_,h=>h
 |b::l,s,H,D,li,hl,h=>by
  rw[a_];have i:=dv (k.ld s b)
  by_cases d:b∈z.G/\(gE k.N c b&&M.contains (cN k.N b))=Nc
  ·have hb:=(hz.mem b d.1).2.1;have f:k.gR ((k.N:Int)+z.g) c M s b=k.lk s b:=by unfold ck.gR;rw[aJ (by rw[(li.mi.hd b b (aM ⟨rfl,d.1⟩))];omega),aJ d.2]
   rw[f];obtain⟨j,m1,m,⟨n,o⟩⟩:=li.lk d.1;exact dm.lm e c M hz l m1 (fun a ha=>hl a (aW _ ha)) (h.lk li.mi e (aM ⟨rfl,d.1⟩))
  ·have f:k.gR ((k.N:Int)+z.g) c M s b=s:=by
    unfold ck.gR;by_cases g:b∈z.G
    ·simp_all
    ·have:=(hl b ac).resolve_left g;rw[aI aa]
   rw[f];exact dm.lm e c M hz l li (fun a ha=>hl a (aW _ ha)) h
end
section
variable {k:ck}{z:C0}{s t:ct}{H D:List Int}
theorem B7 (k:ck):∀(l left:List Int)(s:ct),L left+L l<=L (l.foldl k.cV (left,s)).1->l.foldl k.cV (left,s)=(left++l,s)/\∀a∈l,k.ls s (k.ld s (a+1))=Nc
 |[],left,s,_=>⟨ac,fun a ha=>by cases ha⟩
 |b::l,left,s,h=>by
  rw[a_] at h⊢;cases hls:k.ls s _
  ·have c:k.cV (left,s) b=(left,k.kf (k.kf s (b+1)) (b+2)):=by unfold ck.cV;rw[aI (by rw[hls];simp)]
   rw[c] at h;have g:=(rJ k l left (k.kf (k.kf s (b+1)) (b+2))).1;rw[bZ] at h;omega
  ·have c:k.cV (left,s) b=(left++[b],s):=by unfold ck.cV;rw[aJ hls]
   rw[c] at h⊢;obtain⟨e,f⟩:=B7 k l (left++[b]) s (by rw[a7,hW];rw[bZ] at h;omega)
   refine⟨by rw[e];simp,fun a ha=>?_⟩
   rcases List.mem_cons.1 ha with d|d
   ·rw[d];exact hls
   ·exact f a d
theorem Ly (h:(k.kv s).1=Nb):(k.kv s).2=s/\∀a∈s.ep,k.ls s (k.ld s (a+1))=Nc:=by
 unfold ck.kv ck.d8 at h⊢;obtain⟨b,c⟩:=B7 k s.ep [] s (by simp_all)
 rw[b];exact⟨rfl,c⟩
theorem vX:∀(n:Nat)(t:ct×List cf)(H:List Int),LI k z t.1 H D->dU k z t.1 H->eB k t.1->k.mu t.1<n->∀b∈(k.c_ n t).1.ep,k.ls (k.c_ n t).1 (k.ld (k.c_ n t).1 (b+1))=Nc
 |0,t,H,_,_,_,e=>absurd e aa
 |n+1,t,H,h,w,hb,e=>by
  obtain⟨u,l1,w1,_,_,v⟩:=LI.oV (k.O+1) h w;obtain⟨c1,c2,c3⟩:=CI.lb h.mi.ci hb (k.O+1)
  obtain⟨i,c,x,j⟩:=CI.kv c1 c2;obtain⟨d,l2,f,_,_⟩:=l1.kv w1;unfold ck.c_;cases hk:(k.kv _).1
  ·obtain⟨g1,g2⟩:=Ly hk;obtain⟨B,l,F,N,m⟩:=CI.wa (s:=((k.kv _).2,t.2)) i c;cases hw:(k.wa ((k.kv _).2,t.2)).2
   ·rw[aI ac,uK k _ hw];rw[g1];exact g2
   ·obtain⟨o,p,q,_,_⟩:=da.wa ((k.kv _).2,t.2) d l2 f;have g:=m hw;dsimp only at g;exact vX n _ o p q l aa
  ·rw[aJ rfl];have g:=j hk;exact vX n ((k.kv _).2,t.2) d l2 f c (by dsimp only;omega)
structure fP (k:ck)(s:ct)(q0 q:List cf):Prop where
 len:L q=L q0
 eq:∀n,n<L q0->(X q n (0,0)).1=(X q0 n (0,0)).1/\k.ml s (X q0 n (0,0)).2 (X q n (0,0)).2
theorem fP.refl (s:ct)(q:List cf):fP k s q q:=⟨rfl,fun _ _=>⟨rfl,aM rfl⟩⟩
theorem fP.j6 {q0 q:List cf}(h:fP k s q0 q)(p:dd k s t):fP k t q0 q:=⟨h.len,fun n hn=>⟨(h.eq n hn).1,p.ml (h.eq n hn).2⟩⟩
theorem fP.snoc {q0 q:List cf}(h:fP k s q0 q){e b:cf}(d:b.1=e.1)(f:k.ml s e.2 b.2):fP k s (q0++[e]) (q++[b]):=by
 refine⟨by simp[h.len],fun n hn=>?_⟩
 rw[a7,hW] at hn;by_cases c:n<L q0
 ·rw[n8 _ _ _ _ c,n8 _ _ _ _ ((h.len▸c))];exact h.eq n c
 ·have en:n=L q0:=aa;subst en;rw[vS,<-h.len,vS];exact⟨d,f⟩
theorem fP.lA {q0:List cf}:∀(l:List Nat)(t:(ct×List cf)×Bool)(H:List Int),LI k z t.1.1 H D->dU k z t.1.1 H->(∀i∈l,i<L t.1.2)->fP k t.1.1 q0 t.1.2->fP k (l.foldl (dI k.al k.br) t).1.1 q0 (l.foldl (dI k.al k.br) t).1.2
 |[],_,_,_,_,_,e=>e
 |i::l,t,H,h,w,hl,e=>by
  rw[a_];by_cases c:(k.al t.1.1 (X t.1.2 i (0,0)).2||!k.al t.1.1 (X t.1.2 i (0,0)).1)=Nc
  ·have b:dI k.al k.br t i=t:=by unfold dI;rw[aJ c]
   rw[b];exact fP.lA l t H h w (fun j d=>hl j (aW _ d)) e
  ·have b:dI k.al k.br t i=(((k.br t.1.1 (X t.1.2 i (0,0)).2).2,t.1.2.set i ((X t.1.2 i (0,0)).1,(k.br t.1.1 (X t.1.2 i (0,0)).2).1)),Nc):=by unfold dI;rw[aI c]
   obtain⟨f,l1,w1,g,_⟩:=da.br _ H h w;obtain⟨_,_,_,_,_,m1,_⟩:=h.mi.br _;rw[b];refine fP.lA l _ f l1 w1 (fun j d=>?_) ⟨?_,fun n hn=>?_⟩
   ·simp_all
   ·show L (t.1.2.set i _)=_;rw[bh];exact e.len
   ·rw[vP _ _ _ _ _ (hl i ac)];by_cases en:i=n
    ·rw[aJ en];subst en;exact⟨(e.eq i hn).1,m1 _ (e.eq i hn).2⟩
    ·rw[aI en];exact⟨(e.eq n hn).1,g.ml (e.eq n hn).2⟩
theorem fP.wa {q0:List cf}{t:ct×List cf}(h:LI k z t.1 H D)(w:dU k z t.1 H)(e:fP k t.1 q0 t.2):fP k (k.wa t).1.1 q0 (k.wa t).1.2:=
 fP.lA _ (t,Nb) H h w (fun _ hi=>Mc.1 hi) e
theorem fP.c_ {q0:List cf}:∀(n:Nat)(t:ct×List cf)(H:List Int),LI k z t.1 H D->dU k z t.1 H->fP k t.1 q0 t.2->fP k (k.c_ n t).1 q0 (k.c_ n t).2
 |0,_,_,_,_,e=>e
 |n+1,t,H,h,w,e=>by
  obtain⟨g,l1,w1,i,_⟩:=da.lb (k.O+1) H h w;obtain⟨c,l2,b,j,_⟩:=da.kv g l1 w1;have d:=e.j6 (i.trans j)
  obtain⟨l,m,o,_,_⟩:=da.wa ((k.kv _).2,t.2) c l2 b;have f:=fP.wa (t:=((k.kv _).2,t.2)) l2 b d;unfold ck.c_;split
  ·exact fP.c_ n ((k.kv _).2,t.2) c l2 b d
  ·split
   ·exact fP.c_ n _ l m o f
   ·exact f
structure lM (k:ck)(z:C0)(D:List Int)(q0:List cf)(t:ct×List cf):Prop where
 li:∃H,LI k z t.1 H D/\dU k z t.1 H
 cb:eB k t.1
 wq:uU k t.1 t.2
 he:hB k.N t.1.g t.1.nx=Nb
 ep:∀b∈t.1.ep,k.ls t.1 (k.ld t.1 (b+1))=Nc
 q:fP k t.1 q0 t.2
theorem lM.sp {q0:List cf}{t:ct×List cf}(h:LI k z t.1 H D)(w:dU k z t.1 H)(hb:eB k t.1)(e:fP k t.1 q0 t.2):lM k z D q0 (k.sp t)/\dd k t.1 (k.sp t).1:=by obtain⟨K,m1,b,c,_⟩:=da.sp t H h w;exact⟨⟨⟨K,m1,b⟩,(p5 _ t h.mi.ci hb).2,rV _ t H h w hb aa,rK _ t H h w hb aa,vX _ t H h w hb aa,fP.c_ _ t H h w e⟩,c⟩
theorem lM.ke {q0:List cf}{t:ct×List cf}(h:lM k z D q0 t)(x:Int):lM k z D q0 (k.ke t x).2/\dd k t.1 (k.ke t x).2.1/\(∀b,k.ml t.1 b x->k.ml (k.ke t x).2.1 b (k.ke t x).1)/\k.cQ (k.ke t x).1=Nb/\k.al (k.ke t x).2.1 x=Nc:=by
 obtain⟨H,l,w⟩:=h.li;obtain⟨n,l1,w1,e,_⟩:=da.br x H l w;obtain⟨_,_,_,y1,_,m1,g,_⟩:=l.mi.br x;obtain⟨_,i,j,f⟩:=mP k t.1 x;have hb:eB k (k.br t.1 x).2:=⟨by rw[i,f];exact h.cb.wk,by rw[j,f];exact h.cb.ep⟩
 obtain⟨m,d⟩:=lM.sp (t:=((k.br t.1 x).2,t.2)) l1 w1 hb (h.q.j6 e)
 refine⟨m,e.trans d,fun b hm=>d.ml (m1 b hm),y1,p_ d ?_⟩
 unfold ck.al ck.ls;cases c:k.cQ x
 ·rfl
 ·simpa using g c
end
section
variable {a:Wc}{S:cw}{W:cn}{m:Nat->Int}{Y G:List Int}
theorem cE.T (h:cE a S W m Y G)(hb:cO a S.s):(S.s.j0 a).T=G++Y:=(lC h.kv.inv.full hb).2.2
theorem cE.memT (h:cE a S W m Y G)(hb:cO a S.s){i:Nat}(hi:cA W.T i):m i∈(S.s.j0 a).T:=(h.T hb▸(by grind [mem]))
theorem cE.vY (h:cE a S W m Y G)(hb:cO a S.s){c:Int}(hc:c∈(S.s.j0 a).T):∃i,cA W.T i/\m i=c:=by
 rw[h.T hb] at hc
 grind [gG]
theorem cE.jt (h:cE a S W m Y G)(hb:cO a S.s){v:Int×Int}(hv:dK W.T v):(S.s.j0 a).jt (wv m v)=(v.1==3):=by
 unfold cg.jt;rw[h.vR hb hv];by_cases c:v.1=3
 ·rw[(h.vt hb hv c).2,c,bP.2 (h.memT hb (hv.t c).2)];rfl
 grind
theorem cE.kX (h:cE a S W m Y G)(hb:cO a S.s){i:Nat}(hi:cA W.T i):(S.s.j0 a).jt (ew 3 (m i))=Nc/\cr (ew 3 (m i))=m i:=by grind [word,memT,cg.jt]
theorem cE.al (h:cE a S W m Y G)(hb:cO a S.s)(s:cz){i:Nat}(hi:cA W.T i):(S.s.j0 a).al s (ew 3 (m i))=Nc↔s.f (m i)≠-1:=by grind [kX,cg.al,cg.cY]
theorem cE.o8 (h:cE a S W m Y G)(hb:cO a S.s)(s:cz){v:Int×Int}(hv:dK W.T v)(b:v.1=3):(S.s.j0 a).cY s (wv m v)=Nb↔s.f (m (M v.2))≠-1:=by rw[i6 b,<-h.al hb s (hv.t b).2];unfold cg.al;simp
theorem cE.marked (h:cE a S W m Y G)(hb:cO a S.s){s:cz}{q:List cf}(g:f5 (S.s.j0 a) s q)(hq:∀e∈W.wt,we m e∈q):ic W.T W.wt (fun i=>cA W.T i/\s.f (m i)≠-1):=by
 intro i _ p v hv d;obtain⟨hi,j⟩:=p;have hk:nM (S.s.j0 a) s (m i):=by
  rcases g.ky.cmp _ (h.memT hb hi) j with c|c|c
  all_goals grind [f5.td]
 obtain⟨l,x,_⟩:=h.parts hi;have l:pk ((S.s.j0 a).ld (m i))=(X W.T i t0).1:=l;rcases hv with⟨c,hm⟩|⟨c,e⟩|⟨c,B,e⟩|⟨c,f,he,F,N⟩
 ·obtain⟨k,ab,_,t⟩:=h.field hi hm;have b:=h.fv i hi v hm;refine⟨(b.t d).2,(h.o8 hb s b d).1 ?_⟩
  have:=hk.p aa k (by show(k:Int)<pf (ld a.N S.s.y S.s.g S.s.ws (m i));omega)
  have e:(S.s.j0 a).ld (m i+1+k)=wv m v:=t
  grind
 ·have hl:=h.two hi aa;have hm:v∈(X W.T i t0).2.1:=(by grind)
  have b:=h.fv i hi v hm;refine⟨(b.t d).2,(h.o8 hb s b d).1 ?_⟩
  have:=hk.w aa;have u:(S.s.j0 a).ld (m i+2)=wv m v:=by
   have:=h.fd i hi 1 aa;rw[<-e] at this
   show ld a.N S.s.y S.s.g S.s.ws (m i+2)=_
   grind
  grind
 ·have hl:=h.two hi aa;have hm:v∈(X W.T i t0).2.1:=by simp_all
  have b:=h.fv i hi v hm;refine⟨(b.t d).2,(h.o8 hb s b d).1 ?_⟩
  have u:(S.s.j0 a).ld (m i+2)=wv m v:=by
   have:=h.fd i hi 1 aa;rw[<-e] at this
   show ld a.N S.s.y S.s.g S.s.ws (m i+2)=_
   grind
  have gV:(S.s.j0 a).ld (m i+1)=wv m (X (X W.T i t0).2.1 0 (0,0)):=by
   have:=h.fd i hi 0 aa;show ld a.N S.s.y S.s.g S.s.ws (m i+1)=_
   grind
  rcases hk.e aa with n|n
  ·have ad:=g.ep _ n
   grind [fv,jt,o8,cg.cY]
  grind
 ·have o:=h.dF f he;have ag:M f.1=i:=aa;have w:M v.2=M f.2:=by grind
  rw[w];refine⟨o.h,(h.al hb s o.h).1 ?_⟩
  rcases g.wq _ (hq f he) with c|c
  ·exact c
  ·exfalso;have:=(h.al hb s hi).2 j;have c:(S.s.j0 a).al s (ew 3 (m (M f.1)))=Nb:=c
   grind
def iE (W:cn)(m:Nat->Int)(X:Nat->Prop)(c:Int):Prop:=∃i,cA W.T i/\m i=c/\X i
theorem cE.m7 (h:cE a S W m Y G){X:Nat->Prop}{i:Nat}(hi:cA W.T i):iE W m X (m i)↔X i:=
 ⟨fun⟨j,c,e,b⟩=>(h.inj j i c hi e▸b),fun b=>⟨i,hi,rfl,b⟩⟩
theorem cE.closed (h:cE a S W m Y G)(hb:cO a S.s){X:Nat->Prop}(u:ic W.T W.wt X)(hr:∀v∈W.rs,v.1=3->X (M v.2)):nV (S.s.j0 a) (iE W m X)/\p9 (S.s.j0 a) (iE W m X) (W.wt.map (we m)):=by
 have key:∀{i:Nat}{v:Int×Int},cA W.T i->X i->dK W.T v->jv W.T W.wt X i v->(S.s.j0 a).jt (wv m v)=Nc->iE W m X (cr (wv m v)):=fun {i v} hi f hv hk d=>by
  rw[h.jt hb hv] at d;have g:v.1=3:=by simpa using d
  rw[(h.vt hb hv g).2];exact⟨_,(hv.t g).2,rfl,u i hi.1 f v hk g⟩
 have fl:∀{i:Nat},cA W.T i->∀k:Nat,(k:Int)<pf ((S.s.j0 a).ld (m i))->k<L (W.T.getD i t0).2.1:=fun {i} hi k hk=>by have hk:(k:Int)<pf (ld a.N S.s.y S.s.g S.s.ws (m i)):=hk;rw[(h.parts hi).2.1] at hk;omega
 have kd:∀{i:Nat},cA W.T i->pk ((S.s.j0 a).ld (m i))=(W.T.getD i t0).1:=fun {i} hi=>(h.parts hi).1;have p:∀{i:Nat},cA W.T i->L (W.T.getD i t0).2.1=2->(S.s.j0 a).ld (m i+2)=wv m ((W.T.getD i t0).2.1.getD 1 (0,0))/\(S.s.j0 a).ld (m i+1)=wv m ((W.T.getD i t0).2.1.getD 0 (0,0)):=fun {i} hi hl=>by
  constructor
  ·show ld a.N S.s.y S.s.g S.s.ws (m i+2)=_;rw[<-(h.fd i hi 1 aa)]
   congr 1
   omega
  ·show ld a.N S.s.y S.s.g S.s.ws (m i+1)=_;rw[<-(h.fd i hi 0 aa)]
   congr 1
   omega
 refine⟨⟨fun i hi d=>?_,fun c hc n hk i hi d=>?_,fun c hc n hk d=>?_,fun c hc n hk w d=>?_⟩,fun e he hg d=>?_⟩
 ·obtain⟨er,hv⟩:=h.root hi;have er:(S.s.j0 a).s.rs.getD i 0=wv m (W.rs.getD i (0,0)):=er;rw[er] at d⊢;rw[h.jt hb hv] at d;have g:(W.rs.getD i (0,0)).1=3:=by simpa using d
  rw[(h.vt hb hv g).2];exact⟨_,(hv.t g).2,rfl,hr _ (getD_in ((h.rl▸hi))) g⟩
 ·obtain⟨j,b,rfl,f⟩:=n;have hl:=fl b i hi;have F:(S.s.j0 a).ld (m j+1+i)=wv m ((W.T.getD j t0).2.1.getD i (0,0)):=h.fd j b i hl;rw[F] at d⊢;rw[kd b] at hk;exact key b f (h.fv j b _ (getD_in hl)) (aM ⟨hk,getD_in hl⟩) d
 ·obtain⟨j,b,rfl,f⟩:=n;rw[kd b] at hk;have hl:=h.two b (aK (aM hk))
  rw[(p b hl).1] at d⊢;exact key b f (h.fv j b _ (getD_in aa)) (aK (aM ⟨hk,rfl⟩)) d
 ·obtain⟨j,b,rfl,f⟩:=n;rw[kd b] at hk;have hl:=h.two b (aK (aK hk))
  rw[(p b hl).1] at d⊢;rw[(p b hl).2] at w;have s:=h.fv j b _ (getD_in (x:=((0,0):Int×Int)) (show 0<L (W.T.getD j t0).2.1 by omega))
  refine key b f (h.fv j b _ (getD_in aa)) (aK (aK (aM ⟨hk,fun t=>?_,rfl⟩))) d;have q:=w (by rw[h.jt hb s];simpa using t)
  rw[(h.vt hb s t).2] at q;exact(h.m7 (s.t t).2).1 q
 ·obtain⟨o,B,rfl⟩:=fo.1 he;have l:=h.dF o B;obtain⟨g1,g2⟩:=h.kX hb l.g;obtain⟨ab,N⟩:=h.kX hb l.h;have q:=hg g1;have q:iE W m X (cr (ew 3 (m (M o.1)))):=q;rw[g2] at q;show iE W m X (cr (ew 3 (m (M o.2))))
  rw[N];exact⟨_,l.h,rfl,u _ l.g.1 ((h.m7 l.g).1 q) (3,o.2) (aK (aK (aK ⟨l.k,o,B,by have:=l.g0;omega,rfl⟩))) rfl⟩
structure Rg (a:Wc)(S:cw)(W:cn)(m:Nat->Int)(t:cz×List cf)(L:List Bool)(C:List cf):Prop where
 dr:f5 (S.s.j0 a) t.1 t.2
 sn:dP (S.s.j0 a) (fun _=>True) t.1
 ok:gW W.T L
 gB:∀i,cA W.T i->(t.1.f (m i)≠-1↔cx L i)
 q:t.2=(W.wt++C).map (we m)
 c:∀e∈C,e∈W.rg/\cx L (M e.2)
 r:∀v∈W.rs,v.1=3->cx L (M v.2)
theorem Rg.is (c:cE a S W m Y G)(hb:cO a S.s){t:cz×List cf}{L:List Bool}{C:List cf}(h:Rg a S W m t L C){x:Int}(b:cA W.T (M x)):(S.s.j0 a).al t.1 (ew 3 (m (M x)))=cW L x:=by
 unfold cW;have d:=c.al hb t.1 b;have e:=h.gB _ b
 grind [cx]
theorem Rg.vZ (b:cE a S W m Y G)(hb:cO a S.s){g:List Bool->List Bool}(hg:dB W.T W.wt g):nm (S.s.j0 a).f6 g (we m) W.rg (Rg a S W m):=by
 refine⟨fun t L C e h he hn=>?_,fun t L C e h he hy=>?_⟩
 ·have d:=b.gv e he;rw[<-Rg.is b hb h d.g] at hn;exact nc (o:=dY cz) (is:=fun s x=>(S.s.j0 a).al s.1 x) (kp:=(S.s.j0 a).ke) (s:=t) (e:=we m e) hn
 ·have d:=b.gv e he;rw[<-Rg.is b hb h d.g] at hy;obtain⟨k1,ap,p,ar⟩:=h.dr.ky.ke (t:=t) (ew 3 (m (M e.2)))
  have u:(S.s.j0 a).f6 t (we m e)=(Nc,(((S.s.j0 a).ke t (ew 3 (m (M e.2)))).2.1,t.2++[we m e])):=by refine(nf (o:=dY cz) (is:=fun s x=>(S.s.j0 a).al s.1 x) (kp:=(S.s.j0 a).ke) (s:=t) (e:=we m e) hy).trans ?_;show(Nc,(((S.s.j0 a).ke t (ew 3 (m (M e.2)))).2.1,((S.s.j0 a).ke t (ew 3 (m (M e.2)))).2.2++[we m e]))=_;rw[p]
  have w:=(h.dr.cm (we m e)).1;rw[u] at w;rw[u];obtain⟨o1,aB,aF⟩:=h.ok.put d.h;have B:=hg _ o1.len o1.al;obtain⟨n1,ad,ag⟩:=h.ok.fR hg b.iv d.h;have f:=ag;obtain⟨c1,c2⟩:=b.closed hb B.cl (fun v hv F=>f _ (h.r v hv F))
  have c3:p9 (S.s.j0 a) (iE W m (cx (fR g L e.2))) t.2:=by
   rw[h.q,iB];intro x k;rcases bE.1 k with l|l
   ·exact c2 x l
   ·obtain⟨n,ai,rfl⟩:=fo.1 l;obtain⟨al,am⟩:=h.c n ai;have N:=b.gv n al;intro _ _;show iE W m _ (cr (ew 3 (m (M n.2))))
    rw[(b.kX hb N.h).2];exact⟨_,N.h,rfl,f _ am⟩
  have s0:dP (S.s.j0 a) (iE W m (cx (fR g L e.2))) t.1:=⟨fun c hc ab=>by obtain⟨i,hi,rfl⟩:=b.vY hb hc;exact⟨i,hi,rfl,f i (by grind [gB])⟩,h.sn.ea⟩
  have s1:=dP.ke c1 c3 s0 h.dr.ky (ew 3 (m (M e.2))) (fun _=>by rw[(b.kX hb d.h).2];exact⟨_,d.h,rfl,ad⟩)
  refine⟨rfl,w,⟨fun _ _ _=>trivial,s1.ea⟩,n1,fun i hi=>⟨fun ab=>?_,fun an=>?_⟩,?_,fun x k=>?_,fun v hv F=>(by grind [r])⟩
  ·exact(b.m7 hi).1 (s1.snd _ (b.memT hb hi) ab)
  ·have ao:=b.marked hb k1 (fun x k=>by
    rw[p,h.q]
    grind)
   refine(B.lt _ ao (fun j aR=>?_) i an).2
   grind [gW.al,gB,dT.f,cE.al,cx]
  ·grind [q]
  grind [c]
theorem Rg.start (b:cE a S W m Y G)(hb:cO a S.s){g:List Bool->List Bool}(hg:dB W.T W.wt g):Rg a S W m (S.j2 a) (W.c0 g Nc) []:=by
 have o:=c9.start hb.n1 hb.o1 hb.y1 hb.g1;obtain⟨m1,_,F⟩:=(dh.start o).cP 12;obtain⟨c,N,l⟩:=dh.sp (t:=((S.s.j0 a).cP h9 12,S.q)) m1;have l:(S.j2 a).2=S.q:=l;have d:=b.first Nc;have p:=hg _ d.len d.al;obtain⟨n1,ab⟩:=hg.ok b.iv d;have hr:_:=fun v hv f=>ab _ ((kK _ _ _ _).2 ⟨((b.rv v hv).t f).2.1,aK ⟨v,hv,f,rfl⟩⟩)
 obtain⟨c1,c2⟩:=b.closed hb p.cl hr;rw[<-b.wt] at c2;have cP:∀n,n<=12->dP (S.s.j0 a) (iE W m (cx (W.c0 g Nc))) ((S.s.j0 a).cP h9 n):=fun n=>by
  induction n with
  |zero=>
   intro _;show dP _ _ h9;exact⟨fun _ _ q=>absurd rfl q,fun _ ha=>by simp[h9] at ha⟩
  |succ n ad=>
   intro hn;obtain⟨m1,_⟩:=(dh.start (X:=fun _=>False) o).cP n;exact(ad aa).ma _ (c1.rt n aa) (m1.ma _).2.1
 have s1:dP (S.s.j0 a) (iE W m (cx (W.c0 g Nc))) (S.j2 a).1:=dP.c_ c1 _ ((S.s.j0 a).cP h9 12,S.q) c2 (cP 12 aa) m1;have c:f5 (S.s.j0 a) (S.j2 a).1 (S.j2 a).2:=c;refine⟨c,⟨fun _ _ _=>trivial,s1.ea⟩,n1,fun i hi=>⟨fun q=>(b.m7 hi).1 (by grind [dP.snd,cE.memT]),fun ag=>?_⟩,?_,fun e he=>(by grind),hr⟩
 ·refine(p.lt _ (b.marked hb c (fun x al=>by rw[l,b.wt];grind)) (fun j s=>?_) i ag).2;refine⟨d.al j s,?_⟩
  obtain⟨_,u⟩:=(kK _ _ _ _).1 s;rcases u with⟨_,_,u⟩|⟨v,hv,f,e⟩
  ·grind
  ·obtain⟨k,hk,gV⟩:=bY.1 hv;have w:k<12:=(b.rl▸hk)
   obtain⟨er,B⟩:=b.root w;have ai:W.rs.getD k (0,0)=v:=by simp_all
   rw[ai] at er B;have j0:=F k w;have er:(S.s.j0 a).s.rs.getD k 0=wv m v:=er;rw[er] at j0;rw[<-e];exact(b.o8 hb _ B f).1 (N.cY j0)
 grind [cE.wt]
theorem Rg.settled (b:cE a S W m Y G)(hb:cO a S.s){g:List Bool->List Bool}(hg:dB W.T W.wt g):Rg a S W m (S.cI a,((S.s.j0 a).fu (S.j2 a) S.r).2) (W.cR g Nc).1 (W.cR g Nc).2.1:=by
 have h0:=Rg.start b hb hg;have j:S.r.filter (fun e=>!(S.s.j0 a).al (S.j2 a).1 e.2)=(W.rg.filter (fun e=>!cW (W.c0 g Nc) e.2)).map (we m):=by
  rw[b.rg];exact lR _ _ _ W.rg (fun e he=>by
   show(!(S.s.j0 a).al _ (ew 3 (m (M e.2))))=_
   grind [is,gJ.h,cE.gv])
 obtain⟨c,_⟩:=(Rg.vZ b hb hg).turns _ (W.rg.filter (fun e=>!cW _ e.2)) (S.j2 a) _ [] (fun e he=>(by grind)) h0;have d:eT (S.s.j0 a).f6 (L (S.r.filter (fun e=>!(S.s.j0 a).al (S.j2 a).1 e.2))+1) (S.j2 a) (S.r.filter (fun e=>!(S.s.j0 a).al (S.j2 a).1 e.2))=eT (S.s.j0 a).f6 (L W.rg+1) (S.j2 a) ((W.rg.filter (fun e=>!cW (W.c0 g Nc) e.2)).map (we m)):=by grind [qF]
 have f:(S.s.j0 a).fu (S.j2 a) S.r=(eT (S.s.j0 a).f6 (L W.rg+1) (S.j2 a) ((W.rg.filter (fun e=>!cW (W.c0 g Nc) e.2)).map (we m))).1:=by rw[<-d];rfl
 have i:(S.cI a,((S.s.j0 a).fu (S.j2 a) S.r).2)=(S.s.j0 a).fu (S.j2 a) S.r:=rfl;rw[i,f];exact c
end
section
variable {a:Wc}{S:cw}{W:cn}{m:Nat->Int}{Y G D:List Int}
theorem cE.gz (h:cE a S W m Y G)(hb:cO a S.s):(S.s.k0 a).T=Y:=oW h.kv.inv.full hb.n1 hb.y1 hb.o1 hb.g1
theorem cE.k_ (h:cE a S W m Y G)(hb:cO a S.s){v:Int}(b:v∈Y):v∉G:=fun c=>by have q1:=h.kv.inv.full.i0 v b;have d:=h.kv.inv.full.io v c;have:=hb.y1;omega
theorem cE.o9 (h:cE a S W m Y G)(hb:cO a S.s){i:Nat}(hi:cA W.T i):(S.s.k0 a).cQ (ew 3 (m i))=Nc↔m i∈Y:=by grind [word,gz,ck.cQ]
theorem cE.sw (h:cE a S W m Y G)(hb:cO a S.s){v:Int×Int}(hv:dK W.T v)(hy:(S.s.k0 a).cQ (wv m v)=Nc):v.1=3/\cr (wv m v)=m (M v.2):=by grind [vR,vt,ck.cQ]
theorem cE.kE (h:cE a S W m Y G)(hb:cO a S.s)(s:ct){i:Nat}(hi:cA W.T i):(S.s.k0 a).al s (ew 3 (m i))=Nc↔(m i∈G\/s.f (m i)≠-1):=by grind [o9,word,mem,k_,ck.al,ck.ls]
theorem cE.Lz (h:cE a S W m Y G)(hb:cO a S.s){s:ct}{i:Nat}(hi:cA W.T i)(hs:(S.s.k0 a).al s (ew 3 (m i))=Nc):∃b,(S.s.k0 a).or (S.s.z0 G) s (m i) b:=by
 rcases(h.kE hb s hi).1 hs with c|c
 ·exact⟨m i,aM ⟨rfl,c⟩⟩
 ·rcases h.mem hi with e|e
  ·exact⟨s.f (m i),aK ⟨(h.gz hb▸e),rfl,c⟩⟩
  ·exact⟨m i,aM ⟨rfl,e⟩⟩
def qm (a:Wc)(S:cw)(G D:List Int):Prop:=∀v∈G,v∉D->∀i,0<=i->i<pf ((S.s.k0 a).l0 (S.s.z0 G) v)->(S.s.k0 a).cQ ((S.s.k0 a).l0 (S.s.z0 G) (v+1+i))=Nb
theorem cE.v5 (h:cE a S W m Y G)(hb:cO a S.s)(hc:qm a S G D){q0:List cf}{t:ct×List cf}(d:lM (S.s.k0 a) (S.s.z0 G) D q0 t)(hq:∀e∈W.wt,∃n,n<L q0/\X q0 n (0,0)=we m e):
 ic W.T W.wt (fun i=>cA W.T i/\(S.s.k0 a).al t.1 (ew 3 (m i))=Nc):=by
 obtain⟨H,li,ba⟩:=d.li;have hz:∀v,(v∈(S.s.k0 a).T\/v∈(S.s.z0 G).G)->∀i,0<=i->i<pf ((S.s.k0 a).l0 (S.s.z0 G) v)->de ((S.s.k0 a).l0 (S.s.z0 G) (v+1+i))=Nc->cr ((S.s.k0 a).l0 (S.s.z0 G) (v+1+i))∈(S.s.k0 a).T\/cr ((S.s.k0 a).l0 (S.s.z0 G) (v+1+i))∈(S.s.z0 G).G:=fun v hv i al g ha=>by rw[h.gz hb] at hv⊢;exact h.kv.inv.fd v hv i al g ha
 have told:∀{q x:Int}{j:Nat},cA W.T j->q=ew 3 (m j)->(S.s.k0 a).ml t.1 q x->(S.s.k0 a).al t.1 x=Nc->(S.s.k0 a).al t.1 (ew 3 (m j))=Nc:=fun {q x j} w B hm bb=>by
  rcases hm with e|⟨_,p,_⟩
  ·simp_all
  ·rw[B,(h.word hb w).2.2] at p;exact(h.kE hb t.1 w).2 (aK p)
 intro i _ am v hv s;obtain⟨hi,hs⟩:=am;obtain⟨b,o⟩:=h.Lz hb hi hs;have B:(S.s.k0 a).ld t.1 b=ld a.N S.s.y S.s.g S.s.ws (m i):=li.mi.hd _ _ o;obtain⟨bd,be,_⟩:=h.parts hi;have bg:∀{n:Nat},n<L (X W.T i t0).2.1->(X (X W.T i t0).2.1 n (0,0)).1=3->¬((X W.T i t0).1=3/\n=0)->¬((X W.T i t0).1=4/\b∈t.1.ep)->(S.s.k0 a).al t.1 (ew 3 (m (M (X (X W.T i t0).2.1 n (0,0)).2)))=Nc:=fun {n} hn F n1 bi=>by
  have u:=h.fv i hi _ (getD_in (x:=((0,0):Int×Int)) hn)
  have an:=(u.t F).2;have N:(S.s.k0 a).l0 (S.s.z0 G) (m i+1+n)=ew 3 (m (M (X (X W.T i t0).2.1 n (0,0)).2)):=(h.fd i hi n hn).trans (i6 F)
  have g:(n:Int)<pf ((S.s.k0 a).l0 (S.s.z0 G) (m i)):=by
   show(n:Int)<pf (ld a.N S.s.y S.s.g S.s.ws (m i))
   omega
  have ab:=li.mi.fd (m i) b o n (la n) g;refine told an N ab ?_;rcases ab with e|⟨y1,p,ao⟩
  ·rw[N] at e;have ha:de ((S.s.k0 a).ld t.1 (b+1+n))=Nc:=(by grind [word])
   have ap:(n:Int)<pf ((S.s.k0 a).ld t.1 b):=by simp_all
   rcases li.fields d.he hz hc (li.mi.mem o) (la n) ap ha with c|⟨c1,c2,_⟩|⟨c1,c2⟩
   ·exact rU (li.mi.p6 c)
   all_goals grind
  ·have ar:=li.mi.jD (li.mi.fh _ (n_ y1) p)
   have bl:=li.mi.ci.hN';have bn:=li.mi.ci.hO;have bo:=li.mi.ci.hg;rw[ao];exact rU (nT li.mi.ci ar.1 aa)
 rcases hv with⟨c,hm⟩|⟨c,e⟩|⟨c,aF,e⟩|⟨c,k,he,bp,aR⟩
 ·obtain⟨n,hn,en,_⟩:=h.field hi hm;have u:=h.fv i hi v hm;refine⟨(u.t s).2,?_⟩
  grind
 ·have hl:=h.two hi (aK (aM c))
  have hm:v∈(X W.T i t0).2.1:=by simp_all
  refine⟨((h.fv i hi v hm).t s).2,?_⟩
  grind
 ·have hl:=h.two hi (aK (aK c))
  have hm:v∈(X W.T i t0).2.1:=by simp_all
  refine⟨((h.fv i hi v hm).t s).2,?_⟩
  have ad:=h.fv i hi _ (getD_in (x:=((0,0):Int×Int)) (show 0<L (X W.T i t0).2.1 by omega))
  have br:b∉t.1.ep:=fun a0=>by
   have a1:b+1+0=b+1:=aa;have g:(0:Int)<pf ((S.s.k0 a).l0 (S.s.z0 G) (m i)):=by
    show(0:Int)<pf (ld a.N S.s.y S.s.g S.s.ws (m i))
    omega
   have f:=d.ep b a0;rw[<-a1] at f;have gV:(S.s.k0 a).l0 (S.s.z0 G) (m i+1+0)=wv m (X (X W.T i t0).2.1 0 (0,0)):=h.fd i hi 0 aa;rw[(li.mi.sv o (Int.le_refl 0) g (m6 f)),gV] at f;obtain⟨ag,a2⟩:=h.sw hb ad (m6 f)
   have q1:=(ck.nE f).2.2;have l:=(ck.nE f).2.1;rw[a2] at q1 l;rw[h.gz hb] at l;rcases(h.kE hb t.1 (ad.t ag).2).1 (aF ag).2 with w1|w1
   all_goals grind [k_]
  grind
 ·have ai:=h.dF k he;have bs:M k.1=i:=aa;have a3:M v.2=M k.2:=by rw[aR]
  rw[a3];refine⟨ai.h,?_⟩
  obtain⟨n,hn,en⟩:=hq k he;obtain⟨q1,l⟩:=d.q.eq n hn;rw[en] at q1 l;have a4:X t.2 n (0,0)∈t.2:=getD_in ((d.q.len▸hn))
  refine told ai.h rfl l ?_;rcases d.wq _ a4 with w1|w1
  ·exact w1
  ·exfalso;have q1:(X t.2 n (0,0)).1=ew 3 (m (M k.1)):=q1
   grind
theorem cE.B8 (h:cE a S W m Y G)(hb:cO a S.s){X:Nat->Prop}(q:ic W.T W.wt X)(ho:∀i,cA W.T i->(W.T.getD i t0).2.2.1=Nc->X i):lK (S.s.k0 a) (S.s.z0 G) (iE W m X):=by
 have key:∀{i:Nat}{v:Int×Int},cA W.T i->X i->dK W.T v->jv W.T W.wt X i v->(S.s.k0 a).cQ (wv m v)=Nc->iE W m X (cr (wv m v)):=fun {i v} hi g hv hk f=>by obtain⟨o,e⟩:=h.sw hb hv f;rw[e];exact⟨_,(hv.t o).2,rfl,q i hi.1 g v hk o⟩
 have kd:∀{i:Nat},cA W.T i->pk ((S.s.k0 a).l0 (S.s.z0 G) (m i))=(W.T.getD i t0).1/\pf ((S.s.k0 a).l0 (S.s.z0 G) (m i))=L (W.T.getD i t0).2.1:=fun {i} hi=>⟨(h.parts hi).1,(h.parts hi).2.1⟩
 have s:∀{i:Nat},cA W.T i->∀{n:Nat},n<L (W.T.getD i t0).2.1->(S.s.k0 a).l0 (S.s.z0 G) (m i+1+n)=wv m ((W.T.getD i t0).2.1.getD n (0,0)):=fun {i} hi {n} hn=>h.fd i hi n hn;refine⟨fun b p=>?_,fun c _ k hk i hi f=>?_,fun c _ k hk f=>?_,fun c _ k hk t f=>?_⟩
 ·obtain⟨i,hi,e⟩:=h.gG b (aK p)
  refine⟨i,hi,e,ho i hi ?_⟩
  cases c:(W.T.getD i t0).2.2.1
  ·exact absurd (e▸p) (h.k_ hb (h.iT i hi c))
  ·rfl
 ·obtain⟨j,d,rfl,g⟩:=k;rw[(kd d).2] at hi;have hl:i<L (W.T.getD j t0).2.1:=aa;rw[s d hl] at f⊢;rw[(kd d).1] at hk;exact key d g (by grind [fv]) (aM ⟨hk,getD_in hl⟩) f
 ·obtain⟨j,d,rfl,g⟩:=k;rw[(kd d).1] at hk;have hl:=h.two d aa;have l:(S.s.k0 a).l0 (S.s.z0 G) (m j+1+1)=wv m ((W.T.getD j t0).2.1.getD 1 (0,0)):=(by grind)
  rw[l] at f⊢;exact key d g (by grind [fv]) (aK (aM ⟨hk,rfl⟩)) f
 ·obtain⟨j,d,rfl,g⟩:=k;rw[(kd d).1] at hk;have hl:=h.two d aa;have l:(S.s.k0 a).l0 (S.s.z0 G) (m j+1+1)=wv m ((W.T.getD j t0).2.1.getD 1 (0,0)):=(by grind)
  have u:(S.s.k0 a).l0 (S.s.z0 G) (m j+1+0)=wv m ((W.T.getD j t0).2.1.getD 0 (0,0)):=(by grind)
  rw[l] at f⊢;rw[u] at t;have w:=h.fv j d _ (getD_in (x:=((0,0):Int×Int)) (show 0<L (W.T.getD j t0).2.1 by omega))
  refine key d g (by grind [fv]) (aK (aK (aM ⟨hk,fun B=>?_,rfl⟩))) f;have v6:=(w.t B).2;rcases h.mem v6 with w1|w1
  ·grind [o9,i6,m7,vt]
  grind [k_,iT]
theorem cE.B9 (h:cE a S W m Y G)(hb:cO a S.s){X:Nat->Prop}(g:ic W.T W.wt X)(ho:∀i,cA W.T i->(W.T.getD i t0).2.2.1=Nc->X i){C:List cf}(x:∀e∈C,e∈W.rg/\X (M e.2)){s:ct}{H:List Int}(mi:dJ (S.s.k0 a) (S.s.z0 G) s H){q:List cf}(hq:fP (S.s.k0 a) s ((W.wt++C).map (we m)) q):lL (S.s.k0 a) (iE W m X) q:=by
 intro e he hg hy;obtain⟨n,hn,en⟩:=bY.1 he;have j:q.getD n (0,0)=e:=by simp_all
 have k:n<L ((W.wt++C).map (we m)):=(hq.len▸hn)
 obtain⟨q1,f⟩:=hq.eq n k;have l:n<L (W.wt++C):=by simp_all
 rw[j,lJ (we m) (W.wt++C) n (0,0) (0,0) l] at q1 f;have o:(W.wt++C).getD n (0,0)∈W.wt++C:=(by grind)
 generalize (W.wt++C).getD n (0,0)=b at*;have c:gJ W.T b:=by grind [dF,gv]
 have p:e.2=ew 3 (m (M b.2)):=by
  rcases f with d|⟨y1,t,u⟩
  ·exact d
  ·have v:=mi.jD (mi.fh _ (n_ y1) t)
   have B:=mi.ci.hN';have F:=mi.ci.hO;have N:=mi.ci.hg;rw[u,nT mi.ci v.1 aa] at hy
   grind
 have ab:e.1=ew 3 (m (M b.1)):=q1;rw[p,(h.word hb c.h).2.2];refine⟨_,c.h,rfl,?_⟩
 rcases bE.1 o with d|d
 ·have w:X (M b.1):=by
   rcases h.mem c.g with w1|w1
   ·grind [o9,gJ.g,m7,word]
   grind [gJ.g,k_,iT]
  exact g _ c.g.1 w (3,b.2) (aK (aK (aK ⟨c.k,b,d,by have:=c.g0;omega,rfl⟩))) rfl
 grind
structure jT (a:Wc)(S:cw)(W:cn)(m:Nat->Int)(G D:List Int)(t:ct×List cf)(L:List Bool)(C:List cf):Prop where
 dr:lM (S.s.k0 a) (S.s.z0 G) D ((W.wt++C).map (we m)) t
 ok:gW W.T L
 gB:∀i,cA W.T i->((S.s.k0 a).al t.1 (ew 3 (m i))=Nc↔cx L i)
 c:∀e∈C,e∈W.rg/\cx L (M e.2)
 r:∀v∈W.rs,v.1=3->cx L (M v.2)
 o:∀i,cA W.T i->(X W.T i t0).2.2.1=Nc->cx L i
theorem jT.is {t:ct×List cf}{L:List Bool}{C:List cf}(h:jT a S W m G D t L C){x:Int}(d:cA W.T (M x)):(S.s.k0 a).al t.1 (ew 3 (m (M x)))=cW L x:=by
 unfold cW;have b:=h.gB _ d;cases c:X L (M x) Nb
 ·rw[vT];intro e;rw[b.1 e] at c
  grind
 ·exact b.2 c
theorem v7 {C:List cf}:∀e∈W.wt,∃n,n<L ((W.wt++C).map (we m))/\X ((W.wt++C).map (we m)) n (0,0)=we m e:=fun e he=>by
 obtain⟨n,hn,en⟩:=bY.1 he;refine⟨n,by grind,?_⟩
 grind
theorem jT.vZ (b:cE a S W m Y G)(hb:cO a S.s)(hc:qm a S G D){g:List Bool->List Bool}(hg:dB W.T W.wt g):nm (cm (dY ct) (fun s x=>(S.s.k0 a).al s.1 x) (S.s.k0 a).ke) g (we m) W.rg (jT a S W m G D):=by
 refine⟨fun t L C e h he hn=>?_,fun t L C e h he hy=>?_⟩
 ·have f:=b.gv e he;rw[<-h.is f.g] at hn;exact nc hn
 ·have f:=b.gv e he;rw[<-h.is f.g] at hy;obtain⟨k1,N,ab,ad,k5⟩:=h.dr.ke _;rw[(nf (s:=t) hy)];obtain⟨o1,ap,ar⟩:=h.ok.put f.h;have p:=hg _ o1.len o1.al;obtain⟨n1,u,ag⟩:=h.ok.fR hg b.iv f.h;have w:=p.cl;have l:=ag;have ho:∀i,cA W.T i->(X W.T i t0).2.2.1=Nc->_:=fun i hi q=>l i (h.o i hi q)
  obtain⟨H,li,ai⟩:=h.dr.li;have s0:dm (S.s.k0 a) (iE W m (cx (fR g L e.2))) t.1:=fun c B o=>by
   rw[b.gz hb] at B;obtain⟨i,hi,rfl⟩:=b.gG c (aM B)
   exact⟨i,hi,rfl,l i ((h.gB i hi).1 ((b.kE hb t.1 hi).2 (aK o)))⟩
  obtain⟨s1,_⟩:=dm.ke (b.B8 hb w ho) li ai (b.B9 hb w ho (fun x k=>⟨(h.c x k).1,l _ (h.c x k).2⟩) li.mi h.dr.q) s0 _ (fun _=>by rw[(b.word hb f.h).2.2];exact⟨_,f.h,rfl,u⟩)
  have al:(W.wt++(C++[e])).map (we m)=(W.wt++C).map (we m)++[we m e]:=by rw[<-bw,iB];rfl
  refine⟨rfl,⟨k1.li,k1.cb,fun x k=>?_,k1.he,k1.ep,?_⟩,n1,fun i hi=>⟨fun o=>?_,fun am=>?_⟩,fun x k=>?_,fun v hv an=>l _ (h.r v hv an),ho⟩
  ·rcases bE.1 k with d|d
   ·exact k1.wq x d
   ·rw[bQ.1 d];exact aM (rU ad)
  ·rw[al];exact k1.q.snoc rfl (ab _ (aM rfl))
  ·rcases(b.kE hb _ hi).1 o with d|d
   ·refine ho i hi ?_;cases c:(X W.T i t0).2.2.1
    ·exact absurd d (b.k_ hb (b.iT _ hi c))
    ·rfl
   ·rcases b.mem hi with w1|w1
    ·exact(b.m7 hi).1 (s1 _ (by rw[b.gz hb];exact w1) d)
    ·refine ho i hi ?_;cases c:(X W.T i t0).2.2.1
     ·exact absurd w1 (b.k_ hb (b.iT _ hi c))
     ·rfl
  ·refine(p.lt _ (b.v5 hb hc k1 v7) (fun j n=>?_) i am).2;have F:=o1.al j n;refine⟨F,?_⟩
   unfold cx at n;rw[nk _ _ _ (by rw[h.ok.len];exact f.h.1)] at n;split at n
   ·rename_i ao;rw[<-ao];exact k5
   ·exact p_ N ((h.gB j F).2 n)
  ·rcases bE.1 k with d|d
   ·exact⟨(h.c x d).1,l _ (h.c x d).2⟩
   ·rw[bQ.1 d];exact⟨he,u⟩
theorem cE.LA (h:cE a S W m Y G)(hb:cO a S.s){i:Nat}(hi:cA W.T i)(b:m i∈G):(X W.T i t0).2.2.1=Nc:=by
 cases c:(X W.T i t0).2.2.1
 ·exact absurd b (h.k_ hb (h.iT _ hi c))
 ·rfl
theorem jT.start (b:cE a S W m Y G)(hb:cO a S.s)(hr:S.s.y<=a.O-S.s.g){g:List Bool->List Bool}(hg:dB W.T W.wt g):∃D,qm a S G D/\jT a S W m G D (S.t3 a) (W.c0 g Nb) []:=by
 have h:=b.kv;have be:=b.gz hb;have B:=LI.start h.inv.full hb.n0 hb.n1 hb.o1 hb.y1 hb.g1 hb.l1 hr;have ao:12<=L (S.s.s0 a).rs:=by show 12<=L S.s.rs;rw[hb.r1];exact aG _
 obtain⟨H1,n,bg,⟨b4,bi⟩,l1,y1,_,m1⟩:=B.cP 12 ao;have ap:dM a.N S.s.y (S.s.s1 a).g (S.s.s1 a).ws=G++H1:=(n.mi.full.lists hb.n1 hb.y1 hb.o1 n.mi.ci.hg).2;have bl:(S.s.s1 a).nx=((S.s.k0 a).N:Int)+(S.s.z0 G).g:=(me (S.s.k0 a) (S.s.s0 a) 12).2.2;have ar:el ((S.s.k0 a).l0 (S.s.z0 G)) (((S.s.k0 a).N:Int)+(S.s.z0 G).g) (S.s.k0 a).N (S.s.z0 G).G:=h.inv.full.eH;have hlo:∀x∈G++H1,x∈(S.s.z0 G).G\/((S.s.k0 a).N:Int)+(S.s.z0 G).g<=x:=fun x bn=>(bE.1 bn).imp id (fun d=>n.mi.hlo x d)
 obtain⟨F,s,N,aB,aF,⟨b5,b6⟩,_,bo⟩:=LI.pZ (dO a.O) S.s.M ar (G++H1) n ((dU.start a S.s G).cP B.mi 12 n.mi bg ⟨_,bi⟩) hlo;have bp:(G++H1).foldl ((S.s.k0 a).gR (((S.s.k0 a).N:Int)+(S.s.z0 G).g) (dO a.O) S.s.M) ((S.s.k0 a).cP (S.s.s0 a) 12)=S.s.s2 a:=by unfold eE.s2 ck.lm;rw[ap,bl];rfl
 have hlen:=rN (S.s.k0 a) (((S.s.k0 a).N:Int)+(S.s.z0 G).g) (dO a.O) S.s.M (G++H1) ((S.s.k0 a).cP (S.s.s0 a) 12)
 have u:=b.first Nb;have aR:=hg _ u.len u.al;obtain⟨n1,aV⟩:=hg.ok b.iv u;have a0:=aR.cl;have ho:∀i,cA W.T i->(X W.T i t0).2.2.1=Nc->_:=fun i hi q=>aV i ((kK _ _ _ _).2 ⟨hi.1,aM ⟨q,hi.2,rfl⟩⟩)
 have a1:_:=fun v hv f=>aV _ ((kK _ _ _ _).2 ⟨((b.rv v hv).t f).2.1,aK ⟨v,hv,f,rfl⟩⟩)
 have a2:=b.B8 hb a0 ho;have br:dm (S.s.k0 a) (iE W m (cx (W.c0 g Nb))) (S.s.s0 a):=fun _ _ ab=>absurd rfl ab;have bs:=dm.cP B br (fun i hi hy=>by
  have hi:i<12:=(hb.r1▸hi)
  obtain⟨er,hv⟩:=b.root hi;have er:X (S.s.s0 a).rs i 0=wv m (X W.rs i (0,0)):=er;rw[er] at hy⊢;obtain⟨f,ev⟩:=b.sw hb hv hy;rw[ev];exact⟨_,(hv.t f).2,rfl,a1 _ (getD_in ((b.rl▸hi))) f⟩) 12 ao
 have a3:=dm.lm a2 (dO a.O) S.s.M ar (G++H1) n hlo bs;rw[bp] at N aB aF hlen a3;have ca:L (G++H1)<=2000:=(ap▸je _ _)
 obtain⟨q1,q2,q3⟩:=me _ _ 12;have cb:eB (S.s.k0 a) (S.s.s2 a):=by exact uM
 have a4:qm a S G s:=fun v hv bt i bx b0=>by
  cases hc:(S.s.k0 a).cQ _
  ·rfl
  ·exfalso;unfold ck.cQ at hc;rw[bB,be] at hc;have hm:=h.cd v hv i bx b0 hc.1 (bP.1 hc.2)
   exact bt (bo v (bu _ hv) hv hm)
 have b1:S.q=(W.wt++[]).map (we m):=by rw[List.append_nil];exact b.wt
 have ba:fP (S.s.k0 a) (S.s.s2 a) ((W.wt++[]).map (we m)) S.q:=(b1▸fP.refl _ _)
 have ad:=b.B9 hb a0 ho (fun e he=>(by cases he)) N.mi ba;have key:∀s2:ct,LI (S.s.k0 a) (S.s.z0 G) s2 F s->dU (S.s.k0 a) (S.s.z0 G) s2 F->eB (S.s.k0 a) s2->fP (S.s.k0 a) s2 ((W.wt++[]).map (we m)) S.q->dm (S.s.k0 a) (iE W m (cx (W.c0 g Nb))) s2->lL (S.s.k0 a) (iE W m (cx (W.c0 g Nb))) S.q->
  lM (S.s.k0 a) (S.s.z0 G) s ((W.wt++[]).map (we m)) ((S.s.k0 a).sp (s2,S.q))/\dd (S.s.k0 a) s2 ((S.s.k0 a).sp (s2,S.q)).1/\dm (S.s.k0 a) (iE W m (cx (W.c0 g Nb))) ((S.s.k0 a).sp (s2,S.q)).1:=fun s2 l w c e sn ad=>by
  obtain⟨o,ag⟩:=lM.sp (t:=(s2,S.q)) l w c e;exact⟨o,ag,(dm.c_ a2 _ (s2,S.q) F l w ad sn).1⟩
 obtain⟨o,ag,ai⟩:=key _ N aB cb ba a3 ad;have o:=o;have ai:dm (S.s.k0 a) (iE W m (cx (W.c0 g Nb))) (S.t3 a).1:=ai;refine⟨s,a4,o,n1,fun i hi=>⟨fun ab=>?_,fun b2=>?_⟩,fun e he=>(by cases he),a1,ho⟩
 ·rcases b.mem hi with w1|w1
  ·rcases(b.kE hb _ hi).1 ab with d|d
   ·exact absurd d (b.k_ hb w1)
   ·exact(b.m7 hi).1 (ai _ (by simp_all) d)
  ·exact ho i hi (b.LA hb hi w1)
 ·refine(aR.lt _ (b.v5 hb a4 o v7) (fun j bb=>?_) i b2).2;have al:=u.al j bb;refine⟨al,?_⟩
  obtain⟨_,am⟩:=(kK _ _ _ _).1 bb;rcases am with⟨am,_,_⟩|⟨v,hv,f,e⟩
  ·exact(b.kE hb _ al).2 (aM (b.old j al am))
  ·obtain⟨k,hk,gV⟩:=bY.1 hv;have an:k<12:=(b.rl▸hk)
   obtain⟨er,b3⟩:=b.root an;have ev:X W.rs k (0,0)=v:=by simp_all
   rw[ev] at er b3;have p:cA W.T v.2.toNat:=by simp_all
   refine p_ (aF.trans ag) ?_;rw[<-e];rcases b.mem p with w1|w1
   ·have hm:=m1 k an;have er:X (S.s.s0 a).rs k 0=wv m v:=er;rw[er,i6 f] at hm;rcases hm with d|⟨_,bd,_⟩
    ·have:=y1 k an;rw[d,((b.o9 hb p).2 w1)] at this
     cases this
    ·rw[(b.word hb p).2.2] at bd;exact(b.kE hb _ p).2 (aK bd)
   ·exact(b.kE hb _ p).2 (aM w1)
theorem jT.settled (b:cE a S W m Y G)(hb:cO a S.s)(hc:qm a S G D){g:List Bool->List Bool}(hg:dB W.T W.wt g)(h0:jT a S W m G D (S.t3 a) (W.c0 g Nb) []):jT a S W m G D (S.s4 a,((S.s.k0 a).fu (S.t3 a) S.r).2) (W.cR g Nb).1 (W.cR g Nb).2.1:=by
 have c:S.r.filter (fun e=>!(S.s.k0 a).al (S.t3 a).1 e.2)=(W.rg.filter (fun e=>!cW (W.c0 g Nb) e.2)).map (we m):=by rw[b.rg];exact lR _ _ _ W.rg (fun e he=>by show(!(S.s.k0 a).al _ (ew 3 (m (M e.2))))=_;rw[h0.is (b.gv e he).h])
 obtain⟨d,_⟩:=(jT.vZ b hb hc hg).turns _ (W.rg.filter (fun e=>!cW _ e.2)) (S.t3 a) _ [] (fun e he=>(List.mem_filter.1 he).1) h0;have f:eT (cm (dY ct) (fun s x=>(S.s.k0 a).al s.1 x) (S.s.k0 a).ke) (L (S.r.filter (fun e=>!(S.s.k0 a).al (S.t3 a).1 e.2))+1) (S.t3 a) (S.r.filter (fun e=>!(S.s.k0 a).al (S.t3 a).1 e.2))=eT (cm (dY ct) (fun s x=>(S.s.k0 a).al s.1 x) (S.s.k0 a).ke) (L W.rg+1) (S.t3 a) ((W.rg.filter (fun e=>!cW (W.c0 g Nb) e.2)).map (we m)):=by rw[c];have hl:=bm (fun e=>!cW (W.c0 g Nb) e.2) W.rg;exact qF _ _ _ _ _ aa (by rw[aZ];omega)
 have i:(S.s.k0 a).fu (S.t3 a) S.r=(eT (cm (dY ct) (fun s x=>(S.s.k0 a).al s.1 x) (S.s.k0 a).ke) (L W.rg+1) (S.t3 a) ((W.rg.filter (fun e=>!cW (W.c0 g Nb) e.2)).map (we m))).1:=by rw[<-f];rfl
 have j:(S.s4 a,((S.s.k0 a).fu (S.t3 a) S.r).2)=(S.s.k0 a).fu (S.t3 a) S.r:=rfl;rw[j,i];exact d
end
end Go.Proofs.YtpkjkjhanlbcoaaGreat
