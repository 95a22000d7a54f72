import Derived.Test.YtpkjkjhanlbcoaaGreatJ23
open Array renaming size->I
open Bool renaming false->K,true->Nc
open Go renaming Addr->bG,Calls->J,TypeId->bU,Value->bD,info_parts->bV,madeCells->Dn
open Go.Ending renaming returned->M6
open Go.IntKind renaming i64->M4
open Go.Obj renaming cells->M5
open Go.Proofs.Tryz renaming prog->O
open Go.RowKit renaming Below->C,intOf->bN
open Go.Value renaming agg->bF,bool->bK,int->U,pointer->bJ,slice->M0,tuple->a8
open Go.World renaming alloc->bj,cell?->V,frozen?->bO,heap->G,heap->M2,ownsRow->aC,setCell->ay
open Int renaming toNat->M
open List renaming append_nil->ji,filter->CB,getD->M8,getElem?_map->kg,length->L,length_cons->bZ,range->k4,replicate->A
open Nat renaming le_of_lt->wI,sub_self->Kg,zero_add->b7
open Option renaming none->M9,none->Y,some->Z
namespace Go.Proofs.YtpkjkjhanlbcoaaGreat
set_option maxRecDepth 100000
set_option maxHeartbeats 8000000
open Tryz
open Go.RowKit W Kp cq
theorem wm {P:Prop}(h:P:=by rw[hW1];exact bc _ _ _ ((aY _ ⟨w.heap.size+1,0,none⟩ ⟨w.heap.size+1,1,none⟩ _ ac).trans ((aY _ ⟨w.heap.size,1,none⟩ ⟨w.heap.size+1,1,none⟩ _ ac).trans ((aY _ ⟨w.heap.size,0,none⟩ ⟨w.heap.size+1,1,none⟩ _ ac).trans f1)))):P:=h
theorem wn {P:Prop}(h:P:=by rw[hW1,aY _ _ _ _ ac];exact bc _ _ _ ((aY _ ⟨w.heap.size,1,none⟩ ⟨w.heap.size+1,0,none⟩ _ ac).trans ((aY _ ⟨w.heap.size,0,none⟩ ⟨w.heap.size+1,0,none⟩ _ ac).trans f0))):P:=h
theorem wu {P:Prop}(h:P:=by rw[hW1,aY _ _ _ _ ac,aY _ _ _ _ ac];exact bc _ _ _ ((aY _ ⟨w.heap.size,0,none⟩ ⟨w.heap.size,1,none⟩ _ ac).trans v1)):P:=h
theorem ww {P:Prop}(h:P:=by rw[hW1,aY _ _ _ _ ac,aY _ _ _ _ ac,aY _ _ _ _ ac];exact bc _ _ _ v0):P:=h
theorem CA {P:Prop}(h:P:=by rw[hW1];exact((((Fr.refl (fun b=>b=w.heap.size\/b=w.heap.size+1) w5).set _ 0 _ (aM rfl)).set _ 1 _ (aM rfl)).set _ 0 _ (aK rfl)).set _ 1 _ (aK rfl)):P:=h
theorem wx {P:Prop}(h:P:=by go_enter func74,ntmps74;go_wp2_with fail;go_ret;exact⟨rfl,ba⟩):P:=h
structure sF where
 hp:Nat
 ce:Nat
 rb:Nat
 tp:Nat
 n:Nat
 o:Nat
structure ee (w1:az)(c:Wc)(t:sF)(F G:Nat->Prop)(S:cw)(W:cn)(i k:Nat)(w:az):Prop where
 g:(cD c t.hp).J F S w
 r:(cG t.ce t.n t.o t.rb).J G W w
 tw:w.heap[t.tp]?=Z (M5 #[aq t.hp,aq t.ce,ak k,ak 0,ak 0] 71 (0,0))
 pa:¬F t.tp
 tG:¬G t.tp
 qq:I (M2 w1)<=t.tp
 ok:d5 c S i
 gi:dq W i
 rl:∃m Y X,cE c S W m Y X
 ap:∀b,F b->¬G b
 gm:∀b,F b->I (M2 w1)<=b
 qr:∀b,G b->I (M2 w1)<=b
 be:C (I (M2 w1)) w1 w
 sz:c.N=t.n/\c.O=t.o/\16<=t.n/\t.n<=256/\t.o<=1024
section
variable {w1 w w':az}{c:Wc}{t:sF}{i k:Nat}{F G:Nat->Prop}{S:cw}{W:cn}
theorem ee.below (h:ee w1 c t F G S W i k w)(hb:C (I (M2 w)) w w'):ee w1 c t F G S W i k w':=
 ⟨(cD c t.hp).below h.g hb,(cG t.ce t.n t.o t.rb).below h.r hb,(hb.block t.tp (lt_of_some h.tw)).trans h.tw,h.pa,h.tG,h.qq,h.ok,h.gi,h.rl,h.ap,h.gm,h.qr,h.be.trans (hb.mono h.be.size),h.sz⟩
theorem ee.cells (h:ee w1 c t F G S W i k w):V w (av t.tp 0)=Z (aq t.hp)/\V w (av t.tp 1)=Z (aq t.ce)/\V w (av t.tp 2)=Z (ak k)/\V w (av t.tp 3)=Z (ak 0)/\V w (av t.tp 4)=Z (ak 0)/\bO w (av t.tp 2)=K:=by refine⟨?_,?_,?_,?_,?_,?_⟩<;>simp[World.cell?,World.frozen?,h.tw]
theorem ee.us (h:ee w1 c t F G S W i k w):eI W.T=((S.s.y:Int),(S.s.g:Int)):=by obtain⟨m,Y,X,b⟩:=h.rl;exact b.us (qb h.g)
theorem ee.cL (h:ee w1 c t F G S W i k w)(hi:i<=10000):(i2 c.N S.s.y S.s.g S.s.ws S.q S.s.rs).1=(dL.eh W.T W.wt W.rs).1/\(i2 c.N S.s.y S.s.g S.s.ws S.q S.s.rs).2.2=(dL.eh W.T W.wt W.rs).2.2:=by obtain⟨m,Y,X,b⟩:=h.rl;exact b.view (qb h.g) (aU h.gi.tj hi)
theorem ee.bd (h:ee w1 c t F G S W i k w)(hi:i<=10000):L (dL.eh W.T W.wt W.rs).1=12/\L (dL.eh W.T W.wt W.rs).2.2<=10000/\∀nd∈(dL.eh W.T W.wt W.rs).2.2,L nd.2<=20000:=by obtain⟨q1,b,q3⟩:=BW (h.gi.tx hi) W.rs;exact⟨q1.trans h.gi.rl,b,q3⟩
theorem ee.LV (h:ee w1 c t F G S W i k w):J O 22 #[aq c.p] w fun e w'=>e=M6 (a8 #[ak (eI W.T).1,ak (eI W.T).2])/\C (I (M2 w)) w w':=by rw[h.us];exact I3 h.g
theorem ee.LW (h:ee w1 c t F G S W i k w)(hi:i<=10000):J O 137 #[aq t.ce] w fun e w'=>e=M6 (a8 #[ak (eI W.T).1,ak (eI W.T).2])/\C (I (M2 w)) w w':=by obtain⟨gl,b,_⟩:=h.r;exact vD b h.gi.tl (aU h.gi.tj hi)
theorem ee.CD (h:ee w1 c t F G S W i k w)(hi:i<=10000):J O 25 #[aq c.pw] w fun e w'=>∃b f d g,e=M6 (bF #[M0 b 12 f,M0 d (L (dL.eh W.T W.wt W.rs).2.2) g])/\jc w' (I (M2 w)) b (dL.eh W.T W.wt W.rs).1/\iH w' (I (M2 w)) d (dL.eh W.T W.wt W.rs).2.2/\C (I (M2 w)) w w':=by obtain⟨v1,v2⟩:=h.cL hi;rw[<-v1,<-v2];exact I2 h.g (by have:=h.ok.lE;omega)
theorem ee.LX (h:ee w1 c t F G S W i k w)(hi:i<=10000):J O 138 #[aq t.ce] w fun e w'=>∃b f d g,e=M6 (bF #[M0 b 12 f,M0 d (L (dL.eh W.T W.wt W.rs).2.2) g])/\jc w' (I (M2 w)) b (dL.eh W.T W.wt W.rs).1/\iH w' (I (M2 w)) d (dL.eh W.T W.wt W.rs).2.2/\C (I (M2 w)) w w':=by
 obtain⟨gl,j,_⟩:=h.r;refine(Ll j (h.gi.tx hi) h.gi.g5 h.gi.rv).mono ?_;rintro e w' ⟨b,f,d,o,g,rfl,l,m,rfl,n⟩
 exact⟨b,f,d,g,rfl,l,m,n⟩
theorem LY (h:ee w1 c t F G S W i k w)(hi:i<=10000):J O 69 #[aq t.tp] w fun e w'=>e=M6 (bK Nc)/\C (I (M2 w)) w w':=by
 have j:=h.bd hi;have l:=c8 h hi;obtain⟨q0,q1,_⟩:=fw h.g;obtain⟨q,s,_⟩:=h.cells;have P:=h.LV;have ap:aA (∀(r1 m n1 n:Option bG)(u v x B:Nat)(w':az),dA w' r1 (dL.eh W.T W.wt W.rs).1->dA w' m (dL.eh W.T W.wt W.rs).1->Ln w' n1 (dL.eh W.T W.wt W.rs).2.2->Ln w' n (dL.eh W.T W.wt W.rs).2.2->J O 30 #[bF #[M0 r1 12 u,M0 n1 (L (dL.eh W.T W.wt W.rs).2.2) x],bF #[M0 m 12 v,M0 n (L (dL.eh W.T W.wt W.rs).2.2) B]] w' fun e ar=>e=M6 (bK Nc)/\C (I (M2 w')) w' ar):=fun r1 m n1 n u v x B w' aB aF aR aV=>by have:=Eh r1 m n1 n u v x B _ _ w' (by rw[j.1];decide) (by have:=j.2.1;omega) (fun nd a0=>by have:=j.2.2 nd a0;omega) aB aF aR aV;rwa [j.1] at this
 go_enter func69,ntmps69;go_wp2_with fail;refine P.mono ?_;rintro e br ⟨rfl,ad⟩
 have d:=c8 (l.o.1.below ad) ad;obtain⟨q,s,_⟩:=d.o.1.cells;go_wp2_with fail;refine(d.o.1.LW l.o.2).mono ?_;rintro e ag ⟨rfl,ai⟩
 have f:=c8 (d.o.1.below ai) (d.o.2.trans (ai.mono d.o.2.size))
 have o:=c8 (f.o.1.below (aH _ ag).drew) (f.o.2.trans ((aH _ ag).drew.mono f.o.2.size))
 obtain⟨q,s,_⟩:=f.o.1.cells;obtain⟨q0,q1,_⟩:=fw f.o.1.g;have a1:=o.o.1.CD l.o.2;have a2:aA (∀w',ee w1 c t F G S W i k w'->_):=fun w' h=>h.LX l.o.2;generalize (eI W.T).1=bs at*;generalize (eI W.T).2=bt at*;generalize dL.eh W.T W.wt W.rs=a3 at*;obtain⟨bx,ms,b0⟩:=a3;go_wp2_with fail
 go_region_held3 (fun w'=>V w' (av t.tp 0)=Z (aq t.hp)/\V w' (av t.tp 1)=Z (aq t.ce)/\V w' (av t.hp 0)=Z (aq c.pw)) (first|exact⟨u0,al,am⟩|exact⟨z0,a4,ba⟩|exact⟨q,s,q0⟩|(go_keep;done)) (first
  |(go_at_call 25;refine a1.mono ?_;rintro e N ⟨bb,bd,be,bg,rfl,bi,bl,an⟩;have b:aA ((ee w1 c t F G S W i k N/\C (I (M2 w)) w N)/\_/\_):=⟨⟨o.o.1.below an,o.o.2.trans (an.mono o.o.2.size)⟩,bi.1,bl.ln⟩;obtain⟨z0,a4,_⟩:=b.o.1.1.cells;obtain⟨ba,_⟩:=fw b.o.1.1.g)
  |(go_at_call 138;refine(a2.o N b.o.1.1).mono ?_;rintro e bn ⟨rc,dc,nd,ne,rfl,bo,bp,p⟩;have g:=c8 (b.o.1.1.below p) (b.o.1.2.trans (p.mono b.o.1.2.size));obtain⟨u0,al,_⟩:=g.o.1.cells;obtain⟨am,_⟩:=fw g.o.1.g)
  |(go_at_call 30;refine(ap.o bb rc be nd bd dc bg ne bn (b.o.2.1.below p) bo.1 (b.o.2.2.below p) bp.ln).mono ?_;rintro e b1 ⟨rfl,ao⟩;have ab:=c8 (g.o.1.below ao) (g.o.2.trans (ao.mono g.o.2.size));obtain⟨u0,al,_⟩:=ab.o.1.cells;obtain⟨am,_⟩:=fw ab.o.1.g))
 go_wp2_with fail;go_ret;exact⟨rfl,ab.o.2⟩
end
theorem jJ {w:az}{b:Nat}{u v:bD}{T:bU}(h:w.heap[b]?=Z (M5 #[u,v] T (0,0))):V w (av b 0)=Z u/\V w (av b 1)=Z v/\bO w (av b 0)=K/\bO w (av b 1)=K:=by refine⟨?_,?_,?_,?_⟩<;>simp[World.cell?,World.frozen?,h]
theorem LZ (n o:Nat)(w:az)(h0:16<=n)(g:n<=256)(B:o<=1024):
 Calls O 28 #[ak n,ak o] w fun e w'=>∃c t F G,e=M6 (a8 #[aq t.tp,bF #[ak 0,ak 0]])/\(t.n=n/\t.o=o)/\ee w c t F G (fG n o).1 (fG n o).2 0 0 w':=by
 have aB:=aw w (M5 #[U M4 0,U M4 0] 28)
 have P:=GD n o (bj w (M5 #[U M4 0,U M4 0] 28)) h0 g B;have aF:=aP w (M5 #[U M4 0,U M4 0] 28)
 have aR:I (M2 w)<I (M2 (bj w (M5 #[U M4 0,U M4 0] 28))):=ac;have aV:=hide aB;have ag:aA ((∀w',Calls O 67 #[ak n,ak o] w' fun e ai=>∃ce rb F,e=M6 (a8 #[aq ce,bF #[ak 0,ak 0]])/\(cG ce n o rb).J F n7 ai/\(∀b,F b->I (M2 w')<=b)/\C (I (M2 w')) w' ai)/\_/\_/\_):=⟨fun w'=>K8 n o w' h0 g B,h0,g,B⟩
 go_enter func28,ntmps28;go_wp2_with fail;generalize bj w (M5 #[U M4 0,U M4 0] 28)=w0 at*;generalize a0:I (M2 w)=fb at*;refine P.mono ?_;rintro e w1 ⟨c,hp,F,rfl,J,⟨a1,co⟩,lo,al⟩
 have am:=(al.block fb aR).trans aF;have a2:=lt_of_some am;have N:=aw w1 (M5 #[U M4 0,U M4 0] 28)
 have a3:=aP w1 (M5 #[U M4 0,U M4 0] 28)
 have an:=c8 a1 co;have u:aA (_/\(∀b,F b->fb<b/\b<I (M2 w1))/\_):=⟨(cD c hp).below J N,fun b d=>⟨by have:=lo b d;omega,(cD c hp).lt J b d⟩,(aV.o.trans (al.mono aa)).trans (N.mono aa)⟩
 have l:=c8 ((N.block fb a2).trans am) a3;go_wp2_with fail;generalize bj w1 (M5 #[U M4 0,U M4 0] 28)=a4 at*;generalize I (M2 w1)=f at*;refine(ag.o.1 a4).mono ?_;rintro e i ⟨ce,rb,G,rfl,ao,ap,q⟩
 have S:=(q.block fb (lt_of_some l.o.1)).trans l.o.1;have W:=(q.block f (lt_of_some l.o.2)).trans l.o.2;obtain⟨bl,y1,z0,bn⟩:=jJ W;obtain⟨u0,ba,t0,bo⟩:=jJ S;have nx:f≠fb:=aa;have bp:=lt_of_some W;have br:=lt_of_some S;have bb:aA (_/\_/\_/\(∀b,G b->f<b)/\_):=⟨(cD c hp).below u.o.1 q,ao,u.o.2.1,fun b d=>by have g:=ap b d;have bd:=lt_of_some l.o.2;omega,u.o.2.2.trans (q.mono (by have:=lt_of_some l.o.1;omega))⟩
 clear ao ap q S W l u;go_wp2_with fail;obtain⟨j,m⟩:∃j,j=ay (ay (ay (ay i ⟨f,0,M9⟩ (U M4 0)) ⟨f,1,M9⟩ (U M4 0)) ⟨fb,0,M9⟩ (U M4 0)) ⟨fb,1,M9⟩ (U M4 0):=⟨_,rfl⟩
 rw[<-m];have v0:V j (av fb 0)=Z (ak 0):=by rw[m,aY _ _ _ _ ac];exact bc _ _ _ ((aY _ ⟨f,1,M9⟩ ⟨fb,0,M9⟩ _ (fun e=>absurd (congrArg Addr.block e) nx)).trans ((aY i ⟨f,0,M9⟩ ⟨fb,0,M9⟩ _ (fun e=>absurd (congrArg Addr.block e) nx)).trans u0))
 have v1:V j (av fb 1)=Z (ak 0):=by rw[m];exact bc _ _ _ ((aY _ ⟨fb,0,M9⟩ ⟨fb,1,M9⟩ _ ac).trans ((aY _ ⟨f,1,M9⟩ ⟨fb,1,M9⟩ _ (fun e=>absurd (congrArg Addr.block e) nx)).trans ((aY i ⟨f,0,M9⟩ ⟨fb,1,M9⟩ _ (fun e=>absurd (congrArg Addr.block e) nx)).trans ba)))
 have ab:Fr (fun k=>k=f\/k=fb) i j:=by rw[m];exact((((Fr.refl (fun k=>k=f\/k=fb) i).set f 0 _ (aM rfl)).set f 1 _ (aM rfl)).set fb 0 _ (aK rfl)).set fb 1 _ (aK rfl)
 have be:I (M2 j)=I (M2 i):=by rw[m];simp
 clear m;have s:=aw j (M5 #[bJ (Z ⟨hp,0,M9⟩),bJ (Z ⟨ce,0,M9⟩),U M4 0,U M4 0,U M4 0] 71)
 have ht:=aP j (M5 #[bJ (Z ⟨hp,0,M9⟩),bJ (Z ⟨ce,0,M9⟩),U M4 0,U M4 0,U M4 0] 71)
 rw[be] at ht;have g0:=(s.cell (p:=av fb 0) (by show fb<_;omega)).trans v0;have g1:=(s.cell (p:=av fb 1) (by show fb<_;omega)).trans v1;obtain⟨k1,ar,x,ad,k5⟩:=bb.o;have bg:=k5.trans (ab.below aa (fun k e=>by rcases e with rfl|rfl<;>omega))
 have bi:ee w c ⟨hp,ce,rb,I (M2 i),n,o⟩ F G (fG n o).1 (fG n o).2 0 0 (bj j (M5 #[bJ (Z ⟨hp,0,M9⟩),bJ (Z ⟨ce,0,M9⟩),U M4 0,U M4 0,U M4 0] 71)):=
  ⟨(cD c hp).below ((cD c hp).fr k1 ab (fun b hd e=>by have:=x b hd;rcases e with rfl|rfl<;>omega)) s,(cG ce n o rb).below ((cG ce n o rb).fr ar ab (fun b hd e=>by have:=ad b hd;rcases e with rfl|rfl<;>omega)) s,ht,fun d=>by have g:=x _ d;have g:I (M2 i)<f:=g.2;omega,fun d=>by have g:=(cG ce n o rb).lt ar _ d;exact absurd g (Nat.lt_irrefl _),by show I (M2 w)<=I (M2 i);omega,d5.start c n o,dq.start,⟨_,_,_,cE.start c n o⟩,fun b d e=>by have g:=x b d;have bd:=ad b e;omega,fun b d=>by have g:=x b d;omega,fun b d=>by have g:=ad b d;omega,by rw[a0];exact bg.trans (s.mono aa),an.o.1,an.o.2,ag.o.2⟩
 refine a6 (v:=a8 #[aq (I (M2 i)),bF #[ak 0,ak 0]]) (by simp only [results,results28];simp[go_sem,g0,g1]) rfl ⟨c,⟨hp,ce,rb,I (M2 i),n,o⟩,F,G,rfl,⟨rfl,rfl⟩,bi⟩
theorem L0 (n o:Int)(w:az)(h:n<16\/256<n\/o<0\/1024<o):
 J O 28 #[ak n,ak o] w fun e w'=>e=M6 (a8 #[bJ M9,bF #[ak 1,ak (-1)]])/\C (I (M2 w)) w w':=by
 have f:=aw w (M5 #[U M4 0,U M4 0] 28)
 have g:=aP w (M5 #[U M4 0,U M4 0] 28)
 have P:=I0 n o (bj w (M5 #[U M4 0,U M4 0] 28)) h;go_enter func28,ntmps28;go_wp2_with fail;refine P.mono ?_;rintro e w1 ⟨rfl,c⟩
 have i:=(c.block (I (M2 w)) ac).trans g;have hB1:=f.trans (c.mono ac)
 have j:=c.size;simp at j;obtain⟨y0,y1,q,s⟩:=jJ i;have l1:I (M2 w)<I (M2 w1):=aa;clear c g f i;go_wp2_with fail
 go_region_law (fail)
 all_goals
  obtain⟨b,hW0⟩:∃b,b=ay (ay w1 ⟨I (M2 w),0,M9⟩ (U M4 1)) ⟨I (M2 w),1,M9⟩ (U M4 (-1)):=⟨_,rfl⟩
  rw[<-hW0];have t:I (M2 b)=I (M2 w1):=by rw[hW0];simp[World.setCell]
  have g0:V b (av (I (M2 w)) 0)=Z (ak 1):=by exact l5
  have g1:V b (av (I (M2 w)) 1)=Z (ak (-1)):=by exact qX
  have l:C (I (M2 w)) w b:=by exact uh
  have d:=(aw b (M5 #[U M4 1,U M4 (-1)] 28)).drew;have r0:=(d.cell (p:=av (I (M2 w)) 0) (by show I (M2 w)<_;omega)).trans g0;have r1:=(d.cell (p:=av (I (M2 w)) 1) (by show I (M2 w)<_;omega)).trans g1;have m:=l.trans (d.mono aa)
  generalize (bj b (M5 #[U M4 1,U M4 (-1)] 28)).drew=u at*;go_wp2_with fail;refine a6 (v:=a8 #[bJ M9,bF #[U M4 1,U M4 (-1)]]) (by simp[results,results28,go_sem,r0,r1]) rfl ⟨rfl,m⟩
section
variable {w1 w w':az}{c:Wc}{t:sF}{i k:Nat}{F G F' G':Nat->Prop}{S S2:cw}{W W2:cn}{g:eg}
theorem ee.gr (h:ee w1 c t F G S W i k w)(d:ch F w F' w'):(cG t.ce t.n t.o t.rb).J G W w'/\(∀b,F' b->¬G b)/\(∀b,F' b->I (M2 w1)<=b)/\C (I (M2 w1)) w1 w'/\w'.heap[t.tp]?=Z (M5 #[aq t.hp,aq t.ce,ak k,ak 0,ak 0] 71 (0,0))/\¬F' t.tp:=
 ⟨(cG t.ce t.n t.o t.rb).fr h.r d.fr (fun k g f=>h.ap k f g),fun b f g=>(d.sub b f).elim (fun c=>h.ap b c g) (fun c=>by have:=(cG t.ce t.n t.o t.rb).lt h.r b g;omega),fun b f=>(d.sub b f).elim (h.gm b) (fun c=>aU h.be.size c),h.be.trans (d.fr.below h.be.size (fun k e=>h.gm k e)),(d.fr.block t.tp (lt_of_some h.tw) h.pa).trans h.tw,fun e=>(d.sub _ e).elim h.pa (fun c=>by have:=lt_of_some h.tw;omega)⟩
theorem ee.of {l:az}{j:Nat}(h:ee w1 c t F G S W i k w)(q:ch F w F' w')(hg:(cD c t.hp).J F' S2 w')(d:ch G w' G' l)(hr:(cG t.ce t.n t.o t.rb).J G' W2 l)(ok:d5 c S2 j)(hi:dq W2 j)(s:∃m Y X,cE c S2 W2 m Y X):ee w1 c t F' G' S2 W2 j k l:=by obtain⟨B,o,u,n,p,v⟩:=h.gr q;have x:=lt_of_some p;exact⟨(cD c t.hp).fr hg d.fr (fun k g f=>o k g f),hr,(d.fr.block t.tp x h.tG).trans p,v,fun e=>(d.sub _ e).elim h.tG (fun e=>by omega),h.qq,ok,hi,s,fun b g f=>(d.sub b f).elim (o b g) (fun e=>by have:=(cD c t.hp).lt hg b g;omega),u,fun b f=>(d.sub b f).elim (h.qr b) (fun e=>aU n.size e),n.trans (d.fr.below n.size (fun k e=>h.qr k e)),h.sz⟩
theorem ee.hds (h:ee w1 c t F G S W i k w)(hg:∀T wt,ey T wt->dB T wt (g T wt))(kd R A B I n:Int):lN c (S.hd c kd R A B I n) (W.fY g t.n t.o kd R A B I n):=by obtain⟨m,Y,X,b⟩:=h.rl;have:=b.hds h.ok (qb h.g) hg kd R A B I n;rwa [h.sz.1,h.sz.2.1] at this
theorem ee.step (h:ee w1 c t F G S W i k w){fb:Nat}{u v:bD}(l:I (M2 w1)<=fb)(m:¬F fb)(n:¬G fb)(d:fb≠t.tp):ee w1 c t F G S W i (k+1) (ay (ay (ay w ⟨t.tp,2,M9⟩ (U M4 ((k:Int)+1))) ⟨fb,0,M9⟩ u) ⟨fb,1,M9⟩ v):=by
 have f:Fr (fun b=>b=t.tp\/b=fb) w (ay (ay (ay w ⟨t.tp,2,M9⟩ (U M4 ((k:Int)+1))) ⟨fb,0,M9⟩ u) ⟨fb,1,M9⟩ v):=
  (((Fr.refl (fun b=>b=t.tp\/b=fb) w).set t.tp 2 _ (aM rfl)).set fb 0 _ (aK rfl)).set fb 1 _ (aK rfl)
 refine⟨(cD c t.hp).fr h.g f (fun b g e=>?_),(cG t.ce t.n t.o t.rb).fr h.r f (fun b j e=>?_),?_,h.pa,h.tG,h.qq,h.ok,h.gi,h.rl,h.ap,h.gm,h.qr,h.be.trans (f.below h.be.size (fun b e=>?_)),h.sz⟩
 ·rcases e with rfl|rfl
  ·exact h.pa g
  ·exact m g
 ·rcases e with rfl|rfl
  ·exact h.tG j
  ·exact n j
 ·rw[aX _ _ _ _ (show t.tp≠fb from fun e=>d e.symm),aX _ _ _ _ (show t.tp≠fb from fun e=>d e.symm)];simp only [World.setCell,Array.getElem?_modify,if_true,h.tw,Option.map_some];simp
 ·rcases e with rfl|rfl
  ·exact h.qq
  ·exact l
theorem L3 (h:ee w1 c t F G S W i i w)(hg:∀T wt,ey T wt->dB T wt (g T wt))(hi:i<=8000)(kd R A B I n:Int):
 Calls O 29 #[aq t.tp,eb kd R A B I n] w fun e w'=>∃F' G',e=M6 (a8 #[ak (W.fY g t.n t.o kd R A B I n).1,bF #[ak 0,ak 0]])/\ee w1 c t F' G' (S.hd c kd R A B I n).2 (W.fY g t.n t.o kd R A B I n).2 (i+1) (i+1) w'/\Fr (fun b=>F b\/G b\/b=t.tp) w w'/\(∀b,F' b->F b\/w.heap.size<=b)/\(∀b,G' b->G b\/w.heap.size<=b):=by
 have aV:=qb h.g;have an:aA (lN c (S.hd c kd R A B I n) (W.fY g t.n t.o kd R A B I n)):=h.hds hg kd R A B I n;have a0:aA (d5 c (S.hd c kd R A B I n).2 (i+1)):=(h.ok.hd aV kd R A B I n).1;have a1:aA (dq (W.fY g t.n t.o kd R A B I n).2 (i+1)):=h.gi.fY aa (hg _ _ h.gi.iv) kd R A B I n;have ad:=(aw w (cH kd R A B I n)).alloc ac (M5 #[U M4 0,U M4 0] 28)
 have j:=wW (h.below ad) h.be.size ((cD c t.hp).lt h.g) ((cG t.ce t.n t.o t.rb).lt h.r) (lt_of_some h.tw)
 have l:aA ((bj (w.alloc (cH kd R A B I n)) (M5 #[U M4 0,U M4 0] 28)).heap[w.heap.size]?=Z (cH kd R A B I n)/\(bj (w.alloc (cH kd R A B I n)) (M5 #[U M4 0,U M4 0] 28)).heap[w.heap.size+1]?=Z (M5 #[ak 0,ak 0] 28 (0,0))):=⟨by rw[aS _ _ _ ac];exact aP _ _,gH _ _ _⟩
 have a2:aA (∀w',(cG t.ce t.n t.o t.rb).J G W w'->_):=fun w' a3=>K4 a3 (h.gi.ox aa) (hg _ _ h.gi.iv) (by have:=h.sz;omega) (by have:=h.sz;omega) (by have:=h.sz;omega) (by have:=h.sz;omega) kd R A B I n;have a4:aA (Fr (fun b=>F b\/G b\/b=t.tp) w (bj (w.alloc (cH kd R A B I n)) (M5 #[U M4 0,U M4 0] 28))):=Fr.of ad;have P:=IY (((h.below ad).below b9.drew).g) h.ok aa kd R A B I n;obtain⟨ba,y1,bb,bd,be,bg⟩:=ez l.o.1;obtain⟨bi,bl,_,cq,_⟩:=j.o.1.cells;generalize S.hd c kd R A B I n=D at*;generalize W.fY g t.n t.o kd R A B I n=E at*;obtain⟨cd,ao⟩:=D;obtain⟨cr,ap⟩:=E;have bn:=an.o.1;subst bn;have bo:=hide an.o.2;go_enter func29,ntmps29;go_wp2_with fail;generalize bj (w.alloc (cH kd R A B I n)) (M5 #[U M4 0,U M4 0] 28)=w0 at*;generalize bp:w.heap.size=f at*;have ar:=hide bp;have br:=hide hi
 go_region_held3 (fun w'=>V w' (av t.tp 0)=Z (aq t.hp)/\V w' (av t.tp 1)=Z (aq t.ce)/\V w' (av f 0)=Z (ak kd)/\V w' (av f 1)=Z (ak R)/\V w' (av f 2)=Z (ak A)/\V w' (av f 3)=Z (ak B)/\V w' (av f 4)=Z (ak I)/\V w' (av f 5)=Z (ak n)) (first|exact⟨v0,v1,u0,bs,bt,bx,b0,b1⟩|exact⟨q0,q1,z0,b2,b3,b4,b5,b6⟩|exact⟨bi,bl,ba,y1,bb,bd,be,bg⟩|(go_keep;done)) (first
  |(go_at_call 20;refine P.mono ?_;rintro e N ⟨m,rfl,ca,aB⟩;have cb:=hide ca;have o:aA (ch F w0 m N):=⟨(Fr.of (ax w0).drew).trans aB.fr (fun b c=>aM c),fun b c=>aB.sub b c⟩;have ag:=hide (j.o.1.gr o.o);have p:=c8 ((o.o.fr.block f (lt_of_some l.o.1) (fun d=>by have:=j.o.2.2.1 f d;omega)).trans l.o.1) ((o.o.fr.block (f+1) (lt_of_some l.o.2) (fun d=>by have:=j.o.2.2.1 (f+1) d;omega)).trans l.o.2);have cc:=a2.o N ag.o.1;obtain⟨z0,b2,b3,b4,b5,b6⟩:=ez p.o.1;have q0:V N (av t.tp 0)=Z (aq t.hp):=aD ag.o.2.2.2.2.1;have q1:V N (av t.tp 1)=Z (aq t.ce):=(by simp[World.cell?,ag.o.2.2.2.2.1]))
  |(go_at_call 68;refine cc.mono ?_;rintro e cs ⟨G2,rfl,ce,q⟩;have ai:aA (_):=j.o.1.of o.o cb.o q ce a0.o a1.o bo.o;have u:aA (_/\_/\¬m (f+1)/\¬G2 (f+1)):=⟨(q.fr.block f (lt_of_some p.o.1) (fun d=>by have:=j.o.2.2.2.1 f d;omega)).trans p.o.1,(q.fr.block (f+1) (lt_of_some p.o.2) (fun d=>by have:=j.o.2.2.2.1 (f+1) d;omega)).trans p.o.2,fun d=>(o.o.sub _ d).elim (fun d=>by have:=j.o.2.2.1 (f+1) d;omega) (fun d=>by have:=lt_of_some l.o.2;omega),fun d=>(q.sub _ d).elim (fun d=>by have:=j.o.2.2.2.1 (f+1) d;omega) (fun d=>by have:=lt_of_some p.o.2;omega)⟩;have aF:aA (_/\(∀b,m b->F b\/f<=b)/\(∀b,G2 b->G b\/f<=b)):=⟨(a4.o.trans o.o.fr (fun b d=>aM (aM d))).trans q.fr (fun b d=>aM (aK (aM d))),fun b d=>(o.o.sub b d).imp id (fun d=>by have:=lt_of_some l.o.1;omega),fun b d=>(q.sub b d).imp id (fun d=>by have:=lt_of_some p.o.1;omega)⟩;obtain⟨u0,bs,bt,bx,b0,b1⟩:=ez u.o.1;obtain⟨v0,v1,_⟩:=ai.o.cells))
 have cf:=LY ai.o (by have:=br.o;omega)
 go_wp2_with fail;refine cf.mono ?_;rintro e k ⟨rfl,al⟩
 have aR:aA (ee w1 c t m G2 ao ap (i+1) i k):=ai.o.below al;have cg:=hide ((al.block _ (lt_of_some u.o.2.1)).trans u.o.2.1)
 have ab:=ja u.o.2.2.1 u.o.2.2.2 j.o.2.1 j.o.2.2.2.2;have am:=c8 (aF.o.1.trans (Fr.of (X:=fun _=>False) al) (fun _ d=>d.elim)) aF.o.2;obtain⟨_,_,ct,_,_,cu⟩:=aR.o.cells;obtain⟨ci,cj,cv,cw⟩:V k (av (f+1) 0)=Z (ak 0)/\V k (av (f+1) 1)=Z (ak 0)/\bO k (av (f+1) 0)=K/\bO k (av (f+1) 1)=K:=by refine⟨?_,?_,?_,?_⟩<;>simp[World.cell?,World.frozen?,cg.o]
 have ne:¬t.tp=f+1:=by have:=ab.o.2.2.2;omega
 have ck:¬f+1=t.tp:=aa;go_wp2_with fail;obtain⟨s,x⟩:∃s,s=ay (ay (ay k ⟨t.tp,2,M9⟩ (U M4 ((i:Int)+1))) ⟨f+1,0,M9⟩ (U M4 0)) ⟨f+1,1,M9⟩ (U M4 0):=⟨_,rfl⟩
 rw[<-x];have v0:V s (av (f+1) 0)=Z (ak 0):=by rw[x,aY _ _ _ _ ac];exact bc _ _ _ ((aY k ⟨t.tp,2,M9⟩ ⟨f+1,0,M9⟩ _ (fun e=>absurd (congrArg Addr.block e) ne)).trans ci)
 have v1:V s (av (f+1) 1)=Z (ak 0):=by rw[x];exact bc _ _ _ ((aY _ ⟨f+1,0,M9⟩ ⟨f+1,1,M9⟩ _ ac).trans ((aY k ⟨t.tp,2,M9⟩ ⟨f+1,1,M9⟩ _ (fun e=>absurd (congrArg Addr.block e) ne)).trans cj))
 have cl:ee w1 c t m G2 ao ap (i+1) (i+1) s:=by rw[x];exact aR.o.step (by have:=ab.o.2.2.1;omega) ab.o.1 ab.o.2.1 ck
 have cm:Fr (fun b=>F b\/G b\/b=t.tp) w s:=by
  refine am.o.1.trans (Y:=fun b=>b=t.tp\/b=f+1) ?_ (fun b d=>d.elim (fun d=>aM (aK (aK d))) (fun d=>aK (by have cn:=ar.o;omega)))
  rw[x];exact(((Fr.refl (fun b=>b=t.tp\/b=f+1) k).set t.tp 2 _ (aM rfl)).set (f+1) 0 _ (aK rfl)).set (f+1) 1 _ (aK rfl)
 have co:∀b,m b->F b\/w.heap.size<=b:=fun b d=>(am.o.2.1 b d).imp id (fun d=>by have cn:=ar.o;omega)
 have cp:∀b,G2 b->G b\/w.heap.size<=b:=fun b d=>(am.o.2.2 b d).imp id (fun d=>by omega)
 refine a6 (v:=a8 #[ak cd,bF #[ak 0,ak 0]]) (by simp[results,results29,go_sem,v0,v1]) rfl ⟨m,G2,rfl,cl,cm,co,cp⟩
end
open Go.ChangeShapes Go.WideShapes Go.ChangeAt Go.RowKit Go.Joins Go.Deep W cq
theorem L4:prog.cellsOf 44=6:=ah
theorem L5:prog.cellsOf 3=1:=ah
theorem L7:prog.cellsOf 2=1:=ah
structure S6 where
 k:Int
 R:Int
 A:Int
 B:Int
 I:Int
 n:Int
def gL:S6:=⟨0,0,0,0,0,0⟩
def gD (a:Int):Prop:=-9223372036854775808<=a/\a<=9223372036854775807
structure C6 (w:az)(b o:Nat)(s:S6):Prop where
 c0:V w (av b o)=Z (ak s.k)
 c1:V w (av b (o+1))=Z (ak s.R)
 c2:V w (av b (o+2))=Z (ak s.A)
 c3:V w (av b (o+3))=Z (ak s.B)
 c4:V w (av b (o+4))=Z (ak s.I)
 c5:V w (av b (o+5))=Z (ak s.n)
theorem C6.below {w w':az}{b o B:Nat}{s:S6}(h:C6 w b o s)(hb:C B w w')(hB:b<B):C6 w' b o s:=
 ⟨(hb.cell hB).trans h.c0,(hb.cell hB).trans h.c1,(hb.cell hB).trans h.c2,(hb.cell hB).trans h.c3,(hb.cell hB).trans h.c4,(hb.cell hB).trans h.c5⟩
def gn (w:az)(ad:Option bG)(l:List S6):Prop:=
 0<L l->∃b o,ad=Z ⟨b,o,M9⟩/\b<w.heap.size/\∀i,i<L l->C6 w b (o+i*6) (M8 l i gL)/\gD (M8 l i gL).k/\gD (M8 l i gL).R/\gD (M8 l i gL).A/\gD (M8 l i gL).B/\gD (M8 l i gL).I/\gD (M8 l i gL).n
theorem L8 {c:Type}{b:List c}(h:L b=6):∃c0 c1 c2 c3 c4 c5,b=[c0,c1,c2,c3,c4,c5]:=by
 match b,h with
 |[c0,c1,c2,c3,c4,c5],_=>exact⟨c0,c1,c2,c3,c4,c5,rfl⟩
theorem pd {a:Int}(h:(Lit.int M4 a).wf=Nc):gD a:=by
 have:IntKind.i64.min<=a/\a<=9223372036854775807:=by simpa[Lit.wf] using h
 exact⟨this.1,this.2⟩
theorem L9 {H:Type}{enc:bU×bD->H}{W:az}{sp:Nat->Bool}{q:Bool}{t:Nat}{b:List bD}{x:DataW H×List MemPlace}
 (u:DataW.trod enc O W 0 sp q t 44 b=Z x):∃s:S6,b=[U M4 s.k,U M4 s.R,U M4 s.A,U M4 s.B,U M4 s.I,U M4 s.n]/\gD s.k/\gD s.R/\gD s.A/\gD s.B/\gD s.I/\gD s.n:=by
 obtain⟨v,m,_,ad,hl,w,hg⟩:=DataW.trod_struct underlying44 u;obtain⟨c0,c1,c2,c3,c4,c5,rfl⟩:=L8 hl
 match v,w with
 |[ag,y1,ai,al,am,an],_=>
  have t0:=hg 0 _ rfl;have c:=hg 1 _ rfl;have d:=hg 2 _ rfl;have t3:=hg 3 _ rfl;have e:=hg 4 _ rfl;have f:=hg 5 _ rfl;simp[L5,L7] at t0 c d t3 e f;obtain⟨k,g,_,w0⟩:=DataW.trod_int underlying3 t0;obtain⟨R,i,_,w1⟩:=DataW.trod_int underlying3 c;obtain⟨A,j,_,F⟩:=DataW.trod_int underlying3 d;obtain⟨B,l,_,N⟩:=DataW.trod_int underlying3 t3;obtain⟨I,o,_,S⟩:=DataW.trod_int underlying3 e;obtain⟨n,p,_,ab⟩:=DataW.trod_int underlying2 f;simp at g i j l o p;exact⟨⟨k,R,A,B,I,n⟩,by rw[g,i,j,l,o,p],pd w0,pd w1,pd F,pd N,pd S,pd ab⟩
theorem L_ {H:Type}{enc:bU×bD->H}{W:az}{sp:Nat->Bool}{t:Bool}{u len cap:Nat}{ad:Option bG}{x:DataW H×List MemPlace}
 (v:DataW.trod enc O W 0 sp t u 36 [M0 ad len cap]=Z x):∃l:List S6,L l=len/\gn W ad l:=by
 rcases open_slice underlying36 v with⟨e,_⟩|⟨z,l,c,m,n,D,ai,e,hb,hl,hm,w,_,B⟩
 ·simp at e;obtain⟨rfl,rfl,rfl⟩:=e;exact⟨[],rfl,fun h=>by simp at h⟩
 ·obtain⟨rfl,rfl,rfl⟩:=e;have al:len<=m:=by rw[w];split<;>omega
  have key:∀i,i<len->∃s:S6,(V W (z.add (i*6))=Z (ak s.k)/\V W (z.add (i*6+1))=Z (ak s.R)/\V W (z.add (i*6+2))=Z (ak s.A)/\V W (z.add (i*6+3))=Z (ak s.B)/\V W (z.add (i*6+4))=Z (ak s.I)/\V W (z.add (i*6+5))=Z (ak s.n))/\gD s.k/\gD s.R/\gD s.A/\gD s.B/\gD s.I/\gD s.n:=by
   intro i hi;obtain⟨am,f,F⟩:=B i aa;rw[L4] at f;obtain⟨_,_,d⟩:=World.cells?_some f;obtain⟨s,rfl,hb⟩:=L9 F;refine⟨s,⟨?_,?_,?_,?_,?_,?_⟩,hb⟩
   ·have:=d 0 aa;rw[add_add] at this;simpa using this
   ·have:=d 1 aa;rw[add_add] at this;simpa using this
   ·have:=d 2 aa;rw[add_add] at this;simpa using this
   ·have:=d 3 aa;rw[add_add] at this;simpa using this
   ·have:=d 4 aa;rw[add_add] at this;simpa using this
   ·have:=d 5 aa;rw[add_add] at this;simpa using this
  have:Inhabited S6:=⟨gL⟩
  obtain⟨S,g⟩:=choose_lt key;refine⟨(k4 len).map S,ac,fun hp=>?_⟩
  simp only [List.length_map,List.length_range] at hp⊢;obtain⟨b,o,N⟩:=z;have h0:=(g 0 hp).1.1;have ab:N=M9:=by simpa[Addr.add] using World.cell?_spot h0
  subst ab;refine⟨b,o,rfl,aT W (⟨b,o,M9⟩:bG) (by simpa[Addr.add] using h0),fun i hi=>?_⟩
  obtain⟨⟨k0,k1,k,p,q,k5⟩,k6⟩:=g i hi;have ea:∀j,(⟨b,o,M9⟩:bG).add j=⟨b,o+j,M9⟩:=fun j=>by simp[Addr.add]
  rw[ea] at k0 k1 k p q k5;have ag:M8 ((k4 len).map S) i gL=S i:=by simp[hi]
  rw[ag];exact⟨⟨k0,by exact k1,by exact k,by exact p,by exact q,by exact k5⟩,k6⟩
def cn.sx (s:cn)(g:eg)(n o:Int)(x:S6):Int×cn:=s.fY g n o x.k x.R x.A x.B x.I x.n
def cn.run (s:cn)(g:eg)(n o:Int)(l:List S6):cn:=l.foldl (fun s x=>(s.sx g n o x).2) s
def cn.hY (s:cn)(g:eg)(n o:Int):List S6->List Int
 |[]=>[]
 |x::l=>(s.sx g n o x).1::(s.sx g n o x).2.hY g n o l
theorem pi (g:eg)(n o:Int):∀(l:List S6)(s:cn),L (s.hY g n o l)=L l
 |[],_=>rfl
 |x::l,s=>by show L (_::_:List Int)=_;rw[bZ,pi g n o l,bZ]
theorem Ma (g:eg)(n o:Int)(l:List S6)(x:S6)(s:cn):s.run g n o (l++[x])=((s.run g n o l).sx g n o x).2:=by unfold cn.run;rw[List.foldl_append];rfl
theorem CE (g:eg)(n o:Int):∀(l:List S6)(x:S6)(s:cn),s.hY g n o (l++[x])=s.hY g n o l++[((s.run g n o l).sx g n o x).1]
 |[],_,_=>rfl
 |y::l,x,s=>by show(s.sx g n o y).1::(s.sx g n o y).2.hY g n o (l++[x])=_;rw[CE g n o l x];rfl
def jn (s:cn)(g:eg)(n o:Int)(l:List S6)(i:Nat):List Int:=s.hY g n o (l.take i)++A (L l-i) 0
theorem Mb (s:cn)(g:eg)(n o:Int)(l:List S6)(i:Nat)(hi:i<=L l):L (jn s g n o l i)=L l:=by unfold jn;rw[a7,pi,bz,List.length_replicate];omega
theorem Md (s:cn)(g:eg)(n o:Int)(l:List S6):jn s g n o l (L l)=s.hY g n o l:=by unfold jn;rw[bk,Kg,List.replicate_zero,ji]
theorem pj (l:List S6){i:Nat}(hi:i<L l):l.take (i+1)=l.take i++[M8 l i gL]:=by rw[List.take_succ_eq_append_getElem hi,aL,aN hi];rfl
theorem Me (s:cn)(g:eg)(n o:Int)(l:List S6)(i:Nat)(hi:i<L l):(jn s g n o l i).set i ((s.run g n o (l.take i)).sx g n o (M8 l i gL)).1=jn s g n o l (i+1):=by
 unfold jn;have hl:L (s.hY g n o (l.take i))=i:=by rw[pi,bz];omega
 rw[List.set_append_right _ _ aa,hl,Kg,pj l hi,CE,bw,show L l-i=(L l-(i+1))+1 by omega,List.replicate_succ,List.set_cons_zero];rfl
def e8 (w:az)(base:Nat)(ad:Option bG)(l:List Int):Prop:=0<L l->∃b o,ad=Z ⟨b,o,M9⟩/\base<=b/\b<I (M2 w)/\∀i,i<L l->V w (av b (o+i))=Z (ak (M8 l i 0))
theorem e8.below {w w':az}{base:Nat}{ad:Option bG}{l:List Int}(h:e8 w base ad l)(hb:C (I (M2 w)) w w'):e8 w' base ad l:=fun hp=>by obtain⟨b,o,e,d,c,f⟩:=h hp;exact⟨b,o,e,d,aO c hb.size,fun i hi=>(hb.cell (p:=av b (o+i)) c).trans (f i hi)⟩
theorem e8.of {w:az}{base:Nat}{b n cap:Nat}{l:List Int}(h:aC w base 3 1 (M0 (au b) n cap) n (l.map (Value.int M4))):e8 w base (au b) l:=fun _=>by
 refine⟨b,0,rfl,(cv h b rfl).1,(cv h b rfl).2,fun i hi=>?_⟩
 rw[b7];exact(iW h (i:=i) (u:=ak (M8 l i 0)) (by rw[kg,aN hi,aL,aN hi];rfl)).1
theorem gn.below {w w':az}{ad:Option bG}{l:List S6}(h:gn w ad l)(hb:C (I (M2 w)) w w'):gn w' ad l:=fun hp=>by obtain⟨b,o,e,c,d⟩:=h hp;exact⟨b,o,e,aO c hb.size,fun i hi=>⟨(d i hi).1.below hb c,(d i hi).2⟩⟩
theorem wy (a b:Option bG)(ca cb base c:Nat)(l:List Int)(w:az)(hm:L l<=100000)(ha:e8 w base a l)(hb:e8 w c b l):
 J O 35 #[M0 a (L l) ca,M0 b (L l) cb] w fun e w'=>e=M6 (bK Nc)/\C (I (M2 w)) w w':=by
 have g:aA (e8 w base a l):=ha;have i:aA (e8 w c b l):=hb;clear ha hb;go_enter func35,ntmps35;go_wp2_with fail
 go_loopw [5] (fun iv wr=>∃j:Nat,j<=L l/\iv=ak j/\C (I (M2 w)) w wr) (fun iv _=>L l-M (bN iv))
 case atStart=>exact⟨0,a5 _,rfl,aH _ _⟩
 case round=>
  obtain⟨j,p,rfl,hb⟩:=hrel;by_cases d:j<L l
  ·obtain⟨q,s,k,_,t,hc⟩:=(g.o.below hb) aa;have m:=hc j d;subst k;obtain⟨b2,v,n,_,x,f⟩:=(i.o.below hb) aa;have o:=f j d;subst n;clear hc f;generalize M8 l j 0=u at m o;have j0:(0:Int)<=(j:Int):=aa;have B:(j:Int)<(L l:Int):=aa;go_wp2_with fail
   go_quiet (fail)
   go_wp2_with fail;go_roundw
   case rel=>exact⟨j+1,aa,aj,by first|exact below_drewN hb _|exact hb.drew|exact hb⟩
   case measure=>simp[bN];omega
  ·obtain rfl:j=L l:=aa;go_wp2_with fail;go_ret;exact⟨rfl,hb⟩
structure d9 (X:Nat->Prop)(s s':cn):Prop where
 rs:s'.rs=s.rs
 tl:L s'.T=L s.T
 rv:∀v∈s.rs,v.1=3->X (M v.2)
 al:∀i,X i->cA s.T i/\cA s'.T i
 kd:∀i,X i->(M8 s.T i t0).1=1\/(M8 s.T i t0).1=2
 fl:∀i,X i->(M8 s'.T i t0).1=(M8 s.T i t0).1/\(M8 s'.T i t0).2.1=(M8 s.T i t0).2.1
 cl:∀i,X i->∀v∈(M8 s.T i t0).2.1,v.1=3->X (M v.2)
section
variable {X:Nat->Prop}{s s':cn}{v:Int×Int}
theorem d9.symm (h:d9 X s s'):d9 X s' s:=
 ⟨h.rs.symm,h.tl.symm,fun v hv=>h.rv v (h.rs▸hv),fun i hi=>(h.al i hi).symm,fun i hi=>by rw[(h.fl i hi).1];exact h.kd i hi,fun i hi=>⟨(h.fl i hi).1.symm,(h.fl i hi).2.symm⟩,fun i hi v hv=>h.cl i hi v ((h.fl i hi).2▸hv)⟩
theorem d9.root (h:d9 X s s')(i:Nat):(M8 s.rs i (0,0)).1=3->X (M (M8 s.rs i (0,0)).2):=fun b=>by
 by_cases c:i<L s.rs
 ·exact h.rv _ (getD_in c) b
 ·rw[aL,List.getElem?_eq_none aa] at b;cases b
theorem d9.cut (h:d9 X s s')(hw:fK s){g:List Bool->List Bool}(hg:dB s.T s.wt g)(b_:Int)(mj:Bool):∃d,d9 d (s.cut g b_ mj) s':=by
 unfold cn.cut;split
 ·exact⟨X,h⟩
 have c:=xu hw hg mj;have hr:∀v∈s.rs,v.1=3->cx (s.cR g mj).1 (M v.2):=fun v hv b=>c.up _ (xv hw hg mj hv b)
 generalize (s.cR g mj).1=L at*;generalize (s.cR g mj).2.1=C at*;have gt:∀i,X i->cx L i->M8 (gy L s.T s.T.length) i t0=((M8 s.T i t0).1,(M8 s.T i t0).2.1,Nc,(M8 s.T i t0).2.2.2):=fun i e hi=>by rw[qI,aJ (c.ok.al i hi).1];have hk:=h.kd i e;generalize M8 s.T i t0=t at*;unfold fJ;rw[aJ (show M8 L i K=Nc from hi),aI aa,aI aa]
 refine⟨fun i=>X i/\cx L i,⟨h.rs,by rw[h.tl];exact(jK _ _ _).symm,fun v hv b=>⟨h.rv v hv b,hr v hv b⟩,fun i hi=>⟨(xx c.ok i).2 hi.2,(h.al i hi.1).2⟩,fun i hi=>?_,fun i hi=>?_,fun i hi v hv b=>?_⟩⟩
 ·dsimp only;rw[gt i hi.1 hi.2];exact h.kd i hi.1
 ·dsimp only;rw[gt i hi.1 hi.2];exact h.fl i hi.1
 ·dsimp only at hv;rw[gt i hi.1 hi.2] at hv;exact⟨h.cl i hi.1 v hv b,c.cl i (c.ok.al i hi.2).1 hi.2 v (aM ⟨h.kd i hi.1,hv⟩) b⟩
theorem d9.room (h:d9 X s s')(hw:fK s){g:eg}(hg:dB s.T s.wt (g s.T s.wt))(n o m:Int):((s.room g n o m).1=0\/(s.room g n o m).1=3)/\∃b,d9 b (s.room g n o m).2 s':=by
 unfold cn.room;split
 ·exact⟨aM rfl,X,h⟩
 ·refine⟨?_,h.cut hw hg _ _⟩
  dsimp only;unfold cn.hC;split
  ·exact aK rfl
  ·exact aM rfl
theorem d9.put (h:d9 X s s'){kd:Int}{l:List (Int×Int)}(hk:kd=1\/kd=2)(hl:∀v∈l,v.1=3->X (M v.2)):d9 (fun i=>X i\/i=L s.T) (s.put kd l) (s'.put kd l):=by
 have gt:∀i,X i->M8 (s.T++[(kd,l,K,K)]) i t0=M8 s.T i t0:=fun i hi=>by rw[pA,aI (by have:=(h.al i hi).1.1;omega)]
 have d:∀i,X i->M8 (s'.T++[(kd,l,K,K)]) i t0=M8 s'.T i t0:=fun i hi=>by rw[pA,aI (by have:=(h.al i hi).2.1;omega)]
 have c:M8 (s.T++[(kd,l,K,K)]) (L s.T) t0=(kd,l,K,K):=by rw[pA,aJ rfl]
 have e:M8 (s'.T++[(kd,l,K,K)]) (L s.T) t0=(kd,l,K,K):=by rw[pA,aJ h.tl.symm]
 unfold cn.put;refine⟨h.rs,by simp[h.tl],fun v hv b=>aM (h.rv v hv b),fun i hi=>?_,fun i hi=>?_,fun i hi=>?_,fun i hi v hv b=>?_⟩
 ·rcases hi with hi|rfl
  ·exact⟨(oy _ _ _ _).2 (aM (h.al i hi).1),(oy _ _ _ _).2 (aM (h.al i hi).2)⟩
  ·exact⟨(oy _ _ _ _).2 (aK rfl),(oy _ _ _ _).2 (aK h.tl.symm)⟩
 ·dsimp only;rcases hi with hi|rfl
  ·rw[gt i hi];exact h.kd i hi
  ·rw[c];exact hk
 ·dsimp only;rcases hi with hi|rfl
  ·rw[gt i hi,d i hi];exact h.fl i hi
  ·rw[c,e];exact⟨rfl,rfl⟩
 ·dsimp only at hv;rcases hi with hi|rfl
  ·rw[gt i hi] at hv;exact aM (h.cl i hi v hv b)
  ·rw[c] at hv;exact aM (hl v hv b)
theorem CF {l:List (Int×Int)}{i:Nat}{y v:Int×Int}(h:v∈l.set i y):v∈l\/v=y:=List.mem_or_eq_of_mem_set h
theorem d9.Mf (h:d9 X s s')(R:Nat)(hv:v.1=3->X (M v.2)):d9 X {s with rs:=s.rs.set R v} {s' with rs:=s'.rs.set R v}:=
 ⟨by dsimp only;rw[h.rs],h.tl,fun x b c=>by rcases CF b with b|rfl;exact h.rv x b c;exact hv c,h.al,h.kd,h.fl,h.cl⟩
theorem qs (T:List cJ)(j i k:Nat)(y:Int×Int)(b:j<L T):M8 (ig T j i y) k t0=if j=k then((M8 T j t0).1,(M8 T j t0).2.1.set i y,(M8 T j t0).2.2) else M8 T k t0:=by
 rw[aL,List.getElem?_set];split
 ·rfl
 ·rw[aL]
theorem d9.ig (h:d9 X s s'){j:Nat}(c:X j)(i:Nat)(hv:v.1=3->X (M v.2)):d9 X {s with T:=ig s.T j i v} {s' with T:=ig s'.T j i v}:=by
 have a1:=(h.al j c).1.1;have a2:=(h.al j c).2.1;have f:∀(T:List cJ),j<L T->∀k,cA T k->cA (Go.Proofs.YtpkjkjhanlbcoaaGreat.ig T j i v) k:=fun T g k hk=>by
  refine⟨by rw[bh];exact hk.1,?_⟩
  rw[qs _ _ _ _ _ g];split
  ·rename_i e;subst e;exact hk.2
  ·exact hk.2
 refine⟨h.rs,by simp[h.tl],h.rv,fun k hk=>⟨f _ a1 k (h.al k hk).1,f _ a2 k (h.al k hk).2⟩,fun k hk=>?_,fun k hk=>?_,fun k hk x b d=>?_⟩
 ·dsimp only;rw[qs _ _ _ _ _ a1];split
  ·exact h.kd j c
  ·exact h.kd k hk
 ·dsimp only;rw[qs _ _ _ _ _ a1,qs _ _ _ _ _ a2];split
  ·exact⟨(h.fl j c).1,by dsimp only;rw[(h.fl j c).2]⟩
  ·exact h.fl k hk
 ·dsimp only at b;rw[qs _ _ _ _ _ a1] at b;split at b
  ·rcases CF b with b|rfl
   ·exact h.cl j c x b d
   ·exact hv d
  ·exact h.cl k hk x b d
theorem d9.gd (h:d9 X s s')(hv:v.1=3->X (M v.2)):ie s.T v=K:=by
 cases c:ie s.T v with
 |false=>rfl
 |true=>
  obtain⟨b,d⟩:=pz.1 c;have:=h.kd _ (hv b)
  omega
theorem d9.fd (h:d9 X s s')(hv:v.1=3->X (M v.2)):jy s'.T v=jy s.T v:=by
 unfold jy;by_cases b:v.1=3
 ·rw[(h.fl _ (hv b)).1]
 ·have e:(v.1==3)=K:=by simpa using b
  rw[e];rfl
theorem d9.fc (h:d9 X s s')(hv:v.1=3->X (M v.2))(I:Int):s'.fc v I=s.fc v I:=by
 unfold cn.fc;rw[h.fd hv];split
 ·rename_i c;rw[(h.fl _ (hv (jq.1 c).1)).2]
 ·rfl
theorem CG {s:cn}{v:Int×Int}{I:Int}(h:s.fc v I=0):v.1=3/\0<=I/\M I<L (M8 s.T (M v.2) t0).2.1:=by
 unfold cn.fc at h;split at h
 ·rename_i c;split at h
  ·omega
  ·rename_i b;refine⟨(jq.1 c).1,aa,aa⟩
 ·omega
theorem d9.Mk (h:d9 X s s')(i:Nat):ie s.T (M8 s.rs i (0,0))=K:=h.gd (h.root i)
theorem d9.rt (h:d9 X s s')(g:eg)(n o n' o':Int)(k:Int)(A B:Nat)(I m:Int)(l:k≠4)(p:k≠5)(q:k≠6)(t:k≠7)(u:k≠8):∃v c,s.rt g n o k A B I m=(v,c,s)/\s'.rt g n' o' k A B I m=(v,c,s')/\(v.1=3->X (M v.2)):=by
 have b:=h.root A;unfold cn.rt;rw[h.rs];by_cases k1:k=1
 ·rw[aJ k1,aJ k1];exact⟨_,_,rfl,rfl,fun c=>by cases c⟩
 rw[aI k1,aI k1];by_cases d:k=3
 ·rw[aJ d,aJ d];exact⟨_,_,rfl,rfl,b⟩
 rw[aI d,aI d,aI l,aI l,aI p,aI p,aI q,aI q,aI t,aI t,aI u,aI u];by_cases e:k=10
 ·rw[aJ e,aJ e];unfold cn.pop;rw[h.gd b,h.symm.gd b];exact⟨_,_,rfl,rfl,fun c=>by cases c⟩
 rw[aI e,aI e];by_cases f:k=11
 ·rw[aJ f,aJ f,h.fc b];by_cases c:s.fc (M8 s.rs A (0,0)) I=0
  ·obtain⟨q1,x,q3⟩:=CG c;rw[aJ c,aJ c,(h.fl _ (b q1)).2];exact⟨_,_,rfl,rfl,fun w=>h.cl _ (b q1) _ (getD_in q3) w⟩
  ·rw[aI c,aI c];exact⟨_,_,rfl,rfl,fun c=>by cases c⟩
 rw[aI f,aI f];by_cases i:k=13
 ·rw[aJ i,aJ i,h.fd b];by_cases c:jy s.T (M8 s.rs A (0,0))=Nc
  ·rw[aJ c,aJ c,(h.fl _ (b (jq.1 c).1)).2];exact⟨_,_,rfl,rfl,fun c=>by cases c⟩
  ·rw[aI c,aI c];exact⟨_,_,rfl,rfl,fun c=>by cases c⟩
 rw[aI i,aI i];by_cases j:k=14
 ·rw[aJ j,aJ j];exact⟨_,_,rfl,rfl,fun c=>by cases c⟩
 ·rw[aI j,aI j];exact⟨_,_,rfl,rfl,fun c=>by cases c⟩
end
theorem Ml {w:az}{b k n:Nat}(h:aC w b 3 1 (M0 (au k) n n) n (Dn (Value.int M4 0).cells (n*1)).toList):
 aC w b 3 1 (M0 (au k) n n) n (A n (Value.int M4 0)):=by
 have e:(Dn (Value.int M4 0).cells (n*1)).toList=A n (Value.int M4 0):=by show(Dn #[Value.int M4 0] (n*1)).toList=_;rw[toList_madeCells_one,Nat.mul_one]
 rwa [e] at h
section
variable {w1 w w':az}{c:Wc}{t:sF}{F G:Nat->Prop}{S:cw}{W:cn}{g:eg}
theorem ee.fr {X:Nat->Prop}{i k:Nat}(h:ee w1 c t F G S W i k w)(f:Fr X w w')(g:∀b,F b->¬X b)(j:∀b,G b->¬X b)(ht:¬X t.tp)(l:∀b,X b->I (M2 w1)<=b):ee w1 c t F G S W i k w':=
 ⟨(cD c t.hp).fr h.g f (fun b d e=>g b d e),(cG t.ce t.n t.o t.rb).fr h.r f (fun b d e=>j b d e),(f.block t.tp (lt_of_some h.tw) ht).trans h.tw,h.pa,h.tG,h.qq,h.ok,h.gi,h.rl,h.ap,h.gm,h.qr,h.be.trans (f.below h.be.size l),h.sz⟩
theorem Mm (h:ee w1 c t F G S W 0 0 w)(hg:∀T wt,ey T wt->dB T wt (g T wt))(l:List S6)(ad:Option bG)(cp:Nat)(hl:gn w1 ad l)(hm:L l<=2000):
 J O 73 #[aq t.tp,M0 ad (L l) cp] w fun e w'=>∃ca u ai x al,e=M6 (a8 #[M0 ca (L l) (L l),bF #[M0 u 12 ai,M0 x (L (dL.eh (W.run g t.n t.o l).T (W.run g t.n t.o l).wt (W.run g t.n t.o l).rs).2.2) al],bF #[ak 0,ak 0]])/\e8 w' (I (M2 w)) ca (W.hY g t.n t.o l)/\jc w' (I (M2 w)) u (dL.eh (W.run g t.n t.o l).T (W.run g t.n t.o l).wt (W.run g t.n t.o l).rs).1/\iH w' (I (M2 w)) x (dL.eh (W.run g t.n t.o l).T (W.run g t.n t.o l).wt (W.run g t.n t.o l).rs).2.2/\C (I (M2 w1)) w1 w':=by
 obtain⟨b5,cF,cI,cJ,cK⟩:=bV kk;have b6:=(aw w (M5 #[M0 M9 0 0,M0 M9 0 0] 60)).alloc ac (M5 #[U M4 0,U M4 0] 28)
 have bi:aA ((bj (bj w (M5 #[M0 M9 0 0,M0 M9 0 0] 60)) (M5 #[U M4 0,U M4 0] 28)).heap[I (M2 w)]?=Z (M5 #[M0 M9 0 0,M0 M9 0 0] 60 (0,0))/\(bj (bj w (M5 #[M0 M9 0 0,M0 M9 0 0] 60)) (M5 #[U M4 0,U M4 0] 28)).heap[I (M2 w)+1]?=Z (M5 #[ak 0,ak 0] 28 (0,0))):=⟨by rw[aS _ _ _ ac];exact aP _ _,gH _ _ _⟩
 have s0:I (M2 (bj (bj w (M5 #[M0 M9 0 0,M0 M9 0 0] 60)) (M5 #[U M4 0,U M4 0] 28)))=I (M2 w)+1+1:=ac;have j:aA (ee w1 c t F G S W 0 0 (bj (bj w (M5 #[M0 M9 0 0,M0 M9 0 0] 60)) (M5 #[U M4 0,U M4 0] 28))/\(∀b,F b->b<I (M2 w))/\(∀b,G b->b<I (M2 w))/\t.tp<I (M2 w)/\I (M2 w1)<=I (M2 w)):=⟨h.below b6,(cD c t.hp).lt h.g,(cG t.ce t.n t.o t.rb).lt h.r,lt_of_some h.tw,h.be.size⟩
 have cL:aA (gn w1 ad l):=hl;have cN:aA (∀T wt,ey T wt->dB T wt (g T wt)):=hg;have cb:aA (L l<=2000):=hm;clear h hl hg b6;go_enter func73,ntmps73;go_wp2_with (at_make;refine wpList_make_full _ rfl _ _ 74 rfl (I (M2 w)) 3 b5 (ak 0) 1 underlying74 cF cI cJ M4 M4 _ _ (L l) rfl rfl aa aa (by rw[cK];omega) (by unfold maxLen;omega) (by simp;omega) ?_;intro ao ap cc)
 have ap:=Ml ap;rw[s0] at ap;have b2:C (I (M2 (bj (bj w (M5 #[M0 M9 0 0,M0 M9 0 0] 60)) (M5 #[U M4 0,U M4 0] 28)))) (bj (bj w (M5 #[M0 M9 0 0,M0 M9 0 0] 60)) (M5 #[U M4 0,U M4 0] 28)) ao:=b9.grown cc b8 (fun _ h=>by cases h)
 have ce:aA (ee w1 c t F G S W 0 0 ao/\(∀b,F b->b<I (M2 w)\/I (M2 w)+1+1<b)/\(∀b,G b->b<I (M2 w)\/I (M2 w)+1+1<b)):=⟨j.o.1.below b2,fun b d=>aM (j.o.2.1 b d),fun b d=>aM (j.o.2.2.1 b d)⟩
 have cf:aA (aC ao (I (M2 w)) 3 1 (M0 (au (I (M2 w)+1+1)) (L l) (L l)) (L l) ((jn W g t.n t.o l 0).map (Value.int M4))/\ao.heap[I (M2 w)]?=Z (M5 #[M0 M9 0 0,M0 M9 0 0] 60 (0,0))/\ao.heap[I (M2 w)+1]?=Z (M5 #[ak 0,ak 0] 28 (0,0))):=⟨by
  have e:(jn W g t.n t.o l 0).map (Value.int M4)=A (L l) (Value.int M4 0):=by unfold jn;simp[cn.hY]
  rw[e];exact ap,(b2.block _ (by rw[s0];omega)).trans bi.o.1,(b2.block _ (by rw[s0];omega)).trans bi.o.2⟩
 have a1:aA (t.tp<I (M2 w)/\I (M2 w1)<=I (M2 w)):=j.o.2.2.2;clear ap cc b2 bi j s0
 go_loopw [17] (fun iv wr=>∃(i:Nat)(am:cw)(a2 a3:Nat->Prop),i<=L l/\iv=ak i/\aA (ee w1 c t a2 a3 am (W.run g t.n t.o (l.take i)) i i wr/\(∀b,a2 b->b<I (M2 w)\/I (M2 w)+1+1<b)/\(∀b,a3 b->b<I (M2 w)\/I (M2 w)+1+1<b))/\aA (aC wr (I (M2 w)) 3 1 (M0 (au (I (M2 w)+1+1)) (L l) (L l)) (L l) ((jn W g t.n t.o l i).map (Value.int M4))/\wr.heap[I (M2 w)]?=Z (M5 #[M0 M9 0 0,M0 M9 0 0] 60 (0,0))/\wr.heap[I (M2 w)+1]?=Z (M5 #[ak 0,ak 0] 28 (0,0)))) (fun iv _=>L l-M (bN iv))
 case atStart=>exact⟨0,S,F,G,a5 _,rfl,ce,cf⟩
 case round=>
  clear ce cf;obtain⟨i,am,a2,a3,hi,rfl,j,N⟩:=hrel;by_cases bl:i<L l
  ·obtain⟨c8,c9,bn,l0,hc⟩:=cL.o aa;obtain⟨cg,_⟩:=hc i bl;subst bn;clear hc;have b5:(0:Int)<=(i:Int):=aa;have cO:(i:Int)<(L l:Int):=aa;have a4:aA (W.run g t.n t.o (l.take (i+1))=((W.run g t.n t.o (l.take i)).sx g t.n t.o (M8 l i gL)).2/\(jn W g t.n t.o l i).set i ((W.run g t.n t.o (l.take i)).sx g t.n t.o (M8 l i gL)).1=jn W g t.n t.o l (i+1)):=⟨by rw[pj l bl,Ma],Me W g t.n t.o l i bl⟩
   have ch:((jn W g t.n t.o l i).map (Value.int M4))[i]?=Z (ak (M8 (jn W g t.n t.o l i) i 0)):=by have:=Mb W g t.n t.o l i hi;rw[kg,aN aa,aL,aN aa];rfl
   have ci:aA _:=ch;clear ch;unfold cn.sx at a4;generalize M8 l i gL=st at*;obtain⟨m,sR,n,p,q,sn⟩:=st;obtain⟨cj,y1,ar,ba,ck,cl⟩:=cg.below j.o.1.be l0;dsimp only at cj y1 ar ba ck cl;have ab:=aw wr (cH m sR n p q sn)
   have bo:aA ((wr.alloc (cH m sR n p q sn)).heap[I (M2 wr)]?=Z (cH m sR n p q sn)):=aP _ _;have cm:aA (ee w1 c t a2 a3 am (W.run g t.n t.o (l.take i)) i i (wr.alloc (cH m sR n p q sn))):=j.o.1.below ab;have co:aA (C (I (M2 wr)) wr (wr.alloc (cH m sR n p q sn))):=ab;have P:=L3 cm.o cN.o (by have:=cb.o;omega) m sR n p q sn;clear cg ab;obtain⟨z0,cP,cQ,cR,cS,cT⟩:=ez bo.o
   go_upto_region 5 with fail
   generalize wr.alloc (cH m sR n p q sn)=cq at*;generalize bp:I (M2 wr)=aB at*;have bb:aA (cq.heap[aB]?=Z (cH m sR n p q sn)/\I (M2 w)+1+1<aB):=⟨bo.o,by rw[<-bp];exact(cv N.o.1 _ rfl).2⟩
   have cU:aA (C aB wr cq):=co.o;have da:aA (I (M2 wr)=aB):=bp;clear bo co bp;go_wp2_with fail;refine P.mono ?_;clear P;rintro e s ⟨aF,G2,rfl,cr,br,cs,ct⟩
   have ab:=aw s (M5 #[U M4 0,U M4 0] 28)
   have cV:=lt_of_some bb.o.1;have bd:aA (∀b,I (M2 w)<=b->b<=I (M2 w)+1+1->(bj s (M5 #[U M4 0,U M4 0] 28)).heap[b]?=wr.heap[b]?):=fun b cu cx=>by
    have bs:b<aB:=by have:=bb.o.2;omega
    have bt:=br.block b aa (fun d=>by
     have db:=a1.o;rcases d with d|d|d
     ·have:=j.o.2.1 b d;omega
     ·have:=j.o.2.2 b d;omega
     ·omega)
    exact(ab.block b (aO aa br.size)).trans (bt.trans (cU.o.block b bs))
   have aR:aA (ee w1 c t aF G2 (am.hd c m sR n p q sn).2 ((W.run g t.n t.o (l.take i)).fY g t.n t.o m sR n p q sn).2 (i+1) (i+1) (bj s (M5 #[U M4 0,U M4 0] 28))/\(∀b,aF b->b<I (M2 w)\/I (M2 w)+1+1<b)/\(∀b,G2 b->b<I (M2 w)\/I (M2 w)+1+1<b)):=⟨cr.below ab,fun b d=>(cs b d).elim (j.o.2.1 b) (fun d=>by have:=bb.o.2;omega),fun b d=>(ct b d).elim (j.o.2.2 b) (fun d=>by have:=bb.o.2;omega)⟩
   have an:aA (aC (bj s (M5 #[U M4 0,U M4 0] 28)) (I (M2 w)) 3 1 (M0 (au (I (M2 w)+1+1)) (L l) (L l)) (L l) ((jn W g t.n t.o l i).map (Value.int M4))/\(bj s (M5 #[U M4 0,U M4 0] 28)).heap[I (M2 w)]?=Z (M5 #[M0 M9 0 0,M0 M9 0 0] 60 (0,0))/\(bj s (M5 #[U M4 0,U M4 0] 28)).heap[I (M2 w)+1]?=Z (M5 #[ak 0,ak 0] 28 (0,0))):=⟨cM N.o.1 (fun k e=>by have e:Z k=Z (I (M2 w)+1+1):=e;cases e;exact bd.o _ aa aa),(bd.o _ aa aa).trans N.o.2.1,(bd.o _ aa aa).trans N.o.2.2⟩
   clear cr br cs ct ab bd j N cm cV cj y1 ar ba ck cl z0 cP cQ cR cS cT
   go_upto_region 8 with fail
   generalize bj s (M5 #[U M4 0,U M4 0] 28)=w5 at*;generalize I (M2 s)=fx at*;obtain⟨u0,cW⟩:=iW an.o.1 ci.o;have dc:=(cv an.o.1 _ rfl).2;have bx:aA (∀v:Int,ee w1 c t aF G2 (am.hd c m sR n p q sn).2 ((W.run g t.n t.o (l.take i)).fY g t.n t.o m sR n p q sn).2 (i+1) (i+1) (ay w5 ⟨I (M2 w)+1+1,i,M9⟩ (U M4 v))/\aC (ay w5 ⟨I (M2 w)+1+1,i,M9⟩ (U M4 v)) (I (M2 w)) 3 1 (M0 (Z ⟨I (M2 w)+1+1,0,M9⟩) (L l) (L l)) (L l) (((jn W g t.n t.o l i).set i v).map (Value.int M4))/\(ay w5 ⟨I (M2 w)+1+1,i,M9⟩ (U M4 v)).heap[I (M2 w)]?=Z (M5 #[M0 M9 0 0,M0 M9 0 0] 60 (0,0))/\(ay w5 ⟨I (M2 w)+1+1,i,M9⟩ (U M4 v)).heap[I (M2 w)+1]?=Z (M5 #[U M4 0,U M4 0] 28 (0,0))):=fun v=>by
    have f:Fr (fun b=>b=I (M2 w)+1+1) w5 (ay w5 ⟨I (M2 w)+1+1,i,M9⟩ (U M4 v)):=(Fr.refl (fun b=>b=I (M2 w)+1+1) w5).set _ i _ rfl;refine⟨aR.o.1.fr f (fun b d e=>by have e:b=I (M2 w)+1+1:=e;have:=aR.o.2.1 b d;omega) (fun b d e=>by have e:b=I (M2 w)+1+1:=e;have:=aR.o.2.2 b d;omega) (fun e=>by have e:t.tp=I (M2 w)+1+1:=e;have:=a1.o;omega) (fun b d=>by have d:b=I (M2 w)+1+1:=d;have:=a1.o;omega),?_,(aX _ _ _ _ (show I (M2 w)≠I (M2 w)+1+1 by omega)).trans an.o.2.1,(aX _ _ _ _ (show I (M2 w)+1≠I (M2 w)+1+1 by omega)).trans an.o.2.2⟩
    rw[List.map_set];exact nn an.o.1 i _
   have cX:aA ((∀b,aF b->b<I (M2 w)\/I (M2 w)+1+1<b)/\(∀b,G2 b->b<I (M2 w)\/I (M2 w)+1+1<b)):=aR.o.2;clear aR an ci;generalize (am.hd c m sR n p q sn).2=cY at*;generalize (W.run g t.n t.o (l.take i)).fY g t.n t.o m sR n p q sn=E at*;obtain⟨cd,dd⟩:=E;dsimp only at a4 bx;go_wp2_with fail;have b0:=bx.o cd;rw[a4.o.2,<-a4.o.1] at b0;have cy:aA _:=b0;clear bx b0 u0 cW;go_roundw
   case rel=>exact⟨i+1,cY,aF,G2,aa,aj,⟨cy.o.1,cX.o⟩,cy.o.2⟩
   case measure=>simp[bN];omega
  ·obtain rfl:i=L l:=aa;have cO:¬((L l:Int)<(L l:Int)):=aa;rw[bk,Md] at*;have be:=j.o.1.CD (by have:=cb.o;omega)
   obtain⟨cZ,c0,_⟩:=j.o.1.cells;obtain⟨q0,q1,_⟩:=fw j.o.1.g;generalize cz:(dL.eh (W.run g t.n t.o l).T (W.run g t.n t.o l).wt (W.run g t.n t.o l).rs)=cA at be;have c1:aA ((dL.eh (W.run g t.n t.o l).T (W.run g t.n t.o l).wt (W.run g t.n t.o l).rs)=cA):=cz;clear cz;obtain⟨c2,ms,bg⟩:=cA;dsimp only at be;have ag:aA (aC wr (I (M2 w)) 3 1 (M0 (au (I (M2 w)+1+1)) (L l) (L l)) (L l) ((W.hY g t.n t.o l).map (Value.int M4))/\wr.heap[I (M2 w)]?=Z (M5 #[M0 M9 0 0,M0 M9 0 0] 60 (0,0))/\wr.heap[I (M2 w)+1]?=Z (M5 #[ak 0,ak 0] 28 (0,0))):=N.o;have b1:aA (C (I (M2 w1)) w1 wr):=j.o.1.be;clear j N;go_wp2_with fail;refine be.mono ?_;clear be;rintro e w5 ⟨u,ai,x,al,rfl,cB,cC,aV⟩
   have c3:=(cv ag.o.1 _ rfl).2;have b3:=(aV.block _ (lt_of_some ag.o.2.1)).trans ag.o.2.1;have b4:=(aV.block _ (lt_of_some ag.o.2.2)).trans ag.o.2.2;have c4:aA (e8 w5 (I (M2 w)) (au (I (M2 w)+1+1)) (W.hY g t.n t.o l)/\jc w5 (I (M2 wr)) u c2/\iH w5 (I (M2 wr)) x bg/\C (I (M2 w1)) w1 w5/\I (M2 w)+1+1<I (M2 wr)):=⟨(e8.of ag.o.1).below aV,cB,cC,b1.o.trans (aV.mono b1.o.size),c3⟩
   obtain⟨v0,v1,bn,c5⟩:V w5 (av (I (M2 w)) 0)=Z (M0 M9 0 0)/\V w5 (av (I (M2 w)) 1)=Z (M0 M9 0 0)/\bO w5 (av (I (M2 w)) 0)=K/\bO w5 (av (I (M2 w)) 1)=K:=by refine⟨?_,?_,?_,?_⟩<;>simp[World.cell?,World.frozen?,b3]
   obtain⟨f0,f1,g0,g1⟩:V w5 (av (I (M2 w)+1) 0)=Z (ak 0)/\V w5 (av (I (M2 w)+1) 1)=Z (ak 0)/\bO w5 (av (I (M2 w)+1) 0)=K/\bO w5 (av (I (M2 w)+1) 1)=K:=by refine⟨?_,?_,?_,?_⟩<;>simp[World.cell?,World.frozen?,b4]
   have l0:=lt_of_some b3;have l1:=lt_of_some b4;clear aV cB cC b3 b4 ag b1 cZ c0 q0 q1;go_wp2_with fail;rw[c1.o];obtain⟨B,hW1⟩:∃B,B=ay (ay (ay (ay w5 ⟨I (M2 w),0,M9⟩ (M0 u 12 ai)) ⟨I (M2 w),1,M9⟩ (M0 x (L bg) al)) ⟨I (M2 w)+1,0,M9⟩ (U M4 0)) ⟨I (M2 w)+1,1,M9⟩ (U M4 0):=⟨_,rfl⟩
   rw[<-hW1];have cu:V B (av (I (M2 w)) 0)=Z (M0 u 12 ai):=by exact ww
   have cx:V B (av (I (M2 w)) 1)=Z (M0 x (L bg) al):=by exact wu
   have bs:V B (av (I (M2 w)+1) 0)=Z (ak 0):=by exact wn
   have bt:V B (av (I (M2 w)+1) 1)=Z (ak 0):=by exact wm
   have a0:Fr (fun b=>b=I (M2 w)\/b=I (M2 w)+1) w5 B:=by exact CA
   clear hW1 v0 v1 bn c5 f0 f1 g0 g1;obtain⟨k1,c6,c7,cE,k5⟩:=c4.o;have de:=a1.o;have q1:e8 B (I (M2 w)) (au (I (M2 w)+1+1)) (W.hY g t.n t.o l):=fun hp=>by
    obtain⟨b,o,e,y1,ar,ba⟩:=k1 hp;cases e;refine⟨_,_,rfl,y1,aO ar a0.size,fun i hi=>?_⟩
    rw[aQ (w:=w5) (a:=⟨I (M2 w)+1+1,0+i,M9⟩) (a0.block (I (M2 w)+1+1) ar (fun d=>by rcases d with d|d<;>omega))];exact ba i hi
   refine a6 (v:=a8 #[M0 (au (I (M2 w)+1+1)) (L l) (L l),bF #[M0 u 12 ai,M0 x (L bg) al],bF #[ak 0,ak 0]]) (by simp[results,results73,go_sem,cu,cx,bs,bt]) rfl ⟨_,u,ai,x,al,rfl,q1,(c6.fr a0 (fun b d=>by rcases d with d|d<;>omega)).base aa,(c7.fr a0 (fun b d=>by rcases d with d|d<;>omega)).base aa,cE.trans (a0.below cE.size (fun b d=>by rcases d with d|d<;>omega))⟩
end
theorem e8.fr {X:Nat->Prop}{w w':az}{base:Nat}{ad:Option bG}{l:List Int}(h:e8 w base ad l)(f:Fr X w w')(d:∀b,X b->b<base):e8 w' base ad l:=fun hp=>by
 obtain⟨b,o,e,y1,c,g⟩:=h hp;refine⟨b,o,e,y1,aO c f.size,fun i hi=>?_⟩
 exact(aQ (f.block b c (fun j=>by have:=d b j;omega))).trans (g i hi)
theorem e8.base {w:az}{b c:Nat}{ad:Option bG}{l:List Int}(h:e8 w b ad l)(hb:c<=b):e8 w c ad l:=fun hp=>by obtain⟨k,o,e,y1,d⟩:=h hp;exact⟨k,o,e,aa,d⟩
def fE (g:eg)(n o:Nat)(l:List S6):List Int:=(fG n o).2.hY g n o l
def eu (g:eg)(n o:Nat)(l:List S6):List (Int×Int)×cX:=dL.eh ((fG n o).2.run g n o l).T ((fG n o).2.run g n o l).wt ((fG n o).2.run g n o l).rs
theorem wz {g:eg}(hg:∀T wt,ey T wt->dB T wt (g T wt))(n o:Nat)(h0:16<=n)(s:n<=256)(u:o<=1024)(l:List S6)(ad:Option bG)(cp:Nat)(w:az)(hl:gn w ad l)(hm:L l<=2000):
 J O 33 #[ak n,ak o,M0 ad (L l) cp] w fun e w'=>∃ca f k i m,e=M6 (a8 #[M0 ca (L l) (L l),bF #[M0 f 12 k,M0 i (L (eu g n o l).2.2) m],bF #[ak 0,ak 0]])/\e8 w' (I (M2 w)) ca (fE g n o l)/\jc w' (I (M2 w)) f (eu g n o l).1/\iH w' (I (M2 w)) i (eu g n o l).2.2/\C (I (M2 w)) w w':=by
 unfold eu fE;have S:=(aw w (M5 #[M0 M9 0 0,M0 M9 0 0] 60)).alloc ac (M5 #[U M4 0,U M4 0] 28)
 have p:aA ((bj (bj w (M5 #[M0 M9 0 0,M0 M9 0 0] 60)) (M5 #[U M4 0,U M4 0] 28)).heap[I (M2 w)]?=Z (M5 #[M0 M9 0 0,M0 M9 0 0] 60 (0,0))/\(bj (bj w (M5 #[M0 M9 0 0,M0 M9 0 0] 60)) (M5 #[U M4 0,U M4 0] 28)).heap[I (M2 w)+1]?=Z (M5 #[ak 0,ak 0] 28 (0,0))/\_):=⟨by rw[aS _ _ _ ac];exact aP _ _,gH _ _ _,S⟩
 have s0:I (M2 (bj (bj w (M5 #[M0 M9 0 0,M0 M9 0 0] 60)) (M5 #[U M4 0,U M4 0] 28)))=I (M2 w)+1+1:=ac;have P:=LZ n o (bj (bj w (M5 #[M0 M9 0 0,M0 M9 0 0] 60)) (M5 #[U M4 0,U M4 0] 28)) h0 s u;have W:=c8 (hl.below S) hm;have an:=hide hg;go_enter func33,ntmps33;go_wp2_with fail;generalize bj (bj w (M5 #[M0 M9 0 0,M0 M9 0 0] 60)) (M5 #[U M4 0,U M4 0] 28)=w0 at*;refine P.mono ?_;rintro e w1 ⟨c,t,F,G,rfl,⟨tn,tm⟩,x⟩
 have ab:=aw w1 (M5 #[U M4 0,U M4 0] 28)
 have ag:=Mm (x.below ab) an.o l ad cp W.o.1 W.o.2;rw[tn,tm] at ag;have ao:=hide (x.be.trans (ab.mono x.be.size))
 go_wp2_with fail;generalize bj w1 (M5 #[U M4 0,U M4 0] 28)=ap at*;refine ag.mono ?_;rintro e w5 ⟨ca,f,k,i,m,rfl,ar,aB,aF,B⟩
 have ai:=(B.block _ (lt_of_some p.o.1)).trans p.o.1;have al:=(B.block _ (lt_of_some p.o.2.1)).trans p.o.2.1;have bb:I (M2 w)+1<I (M2 ap):=by have:=ao.o.size;omega
 have am:=ja ar aB aF (p.o.2.2.trans (B.mono aa))
 obtain⟨v0,v1,bd,be⟩:V w5 (av (I (M2 w)) 0)=Z (M0 M9 0 0)/\V w5 (av (I (M2 w)) 1)=Z (M0 M9 0 0)/\bO w5 (av (I (M2 w)) 0)=K/\bO w5 (av (I (M2 w)) 1)=K:=by refine⟨?_,?_,?_,?_⟩<;>simp[World.cell?,World.frozen?,ai]
 obtain⟨f0,f1,g0,g1⟩:V w5 (av (I (M2 w)+1) 0)=Z (ak 0)/\V w5 (av (I (M2 w)+1) 1)=Z (ak 0)/\bO w5 (av (I (M2 w)+1) 0)=K/\bO w5 (av (I (M2 w)+1) 1)=K:=by refine⟨?_,?_,?_,?_⟩<;>simp[World.cell?,World.frozen?,al]
 have l0:=lt_of_some ai;have l1:=lt_of_some al;generalize aR:(dL.eh ((fG n o).2.run g n o l).T ((fG n o).2.run g n o l).wt ((fG n o).2.run g n o l).rs)=aV at am⊢;have a0:=hide aR;obtain⟨bg,ms,N⟩:=aV;go_wp2_with fail;rw[a0.o];obtain⟨j,hW1⟩:∃j,j=ay (ay (ay (ay w5 ⟨I (M2 w),0,M9⟩ (M0 f 12 k)) ⟨I (M2 w),1,M9⟩ (M0 i (L N) m)) ⟨I (M2 w)+1,0,M9⟩ (U M4 0)) ⟨I (M2 w)+1,1,M9⟩ (U M4 0):=⟨_,rfl⟩
 rw[<-hW1];have s:V j (av (I (M2 w)) 0)=Z (M0 f 12 k):=by exact ww
 have a1:V j (av (I (M2 w)) 1)=Z (M0 i (L N) m):=by exact wu
 have u:V j (av (I (M2 w)+1) 0)=Z (ak 0):=by exact wn
 have a2:V j (av (I (M2 w)+1) 1)=Z (ak 0):=by exact wm
 have q:Fr (fun b=>b=I (M2 w)\/b=I (M2 w)+1) w5 j:=by exact CA
 obtain⟨k1,a3,a4,ba⟩:=am.o;refine a6 (v:=a8 #[M0 ca (L l) (L l),bF #[M0 f 12 k,M0 i (L N) m],bF #[ak 0,ak 0]]) (by simp[results,results33,go_sem,s,a1,u,a2]) rfl ⟨_,f,k,i,m,rfl,(k1.fr q (fun b d=>by rcases d with d|d<;>omega)).base aa,(a3.fr q (fun b d=>by rcases d with d|d<;>omega)).base aa,(a4.fr q (fun b d=>by rcases d with d|d<;>omega)).base aa,ba.trans (q.below aa (fun b d=>by rcases d with d|d<;>omega))⟩
def e6 (x:S6):List Value:=[ak x.k,ak x.R,ak x.A,ak x.B,ak x.I,ak x.n]
def fX (l:List S6):List Value:=l.flatMap e6
theorem CH (a b:List S6):fX (a++b)=fX a++fX b:=by simp[fX]
theorem CJ:∀(l:List S6)(i j:Nat),i<L l->j<6->(fX l)[i*6+j]?=(e6 (M8 l i gL))[j]?
 |[],i,j,hi,_=>by simp at hi
 |x::l,0,j,_,b=>by have e:fX (x::l)=e6 x++fX l:=rfl;rw[e,List.getElem?_append_left (by show 0*6+j<6;omega),Nat.zero_mul,b7];rfl
 |x::l,i+1,j,hi,b=>by have e:fX (x::l)=e6 x++fX l:=rfl;have c:L (e6 x)=6:=rfl;rw[e,List.getElem?_append_right (by rw[c];omega),c,show(i+1)*6+j-6=i*6+j by omega,CJ l i j (by simpa using hi) b];rfl
theorem CK:(prog.info? 44).map (fun i=>(i.zero,i.size,i.bytes))=Z (Z (bF #[ak 0,ak 0,ak 0,ak 0,ak 0,ak 0]),6,48):=ah
def oa (l:List S6):Prop:=∀x∈l,gD x.k/\gD x.R/\gD x.A/\gD x.B/\gD x.I/\gD x.n
theorem gn.v6 {w:az}{ad:Option bG}{l:List S6}(h:gn w ad l):oa l:=fun x c=>by obtain⟨i,hi,rfl⟩:=List.mem_iff_getElem.1 c;obtain⟨b,o,_,_,d⟩:=h aa;have:=(d i hi).2;rwa [aL,aN hi] at this
theorem gn.of {w:az}{base b n cap:Nat}{l:List S6}(h:aC w base 44 6 (M0 (au b) n cap) n (fX l))(hk:oa l):gn w (au b) l:=fun _=>by
 refine⟨b,0,rfl,(cv h b rfl).2,fun i hi=>⟨?_,?_⟩⟩
 ·have c:=fun j (d:j<6)=>CJ l i j hi d;rw[b7];generalize M8 l i gL=x at c⊢;exact⟨(iW h (i:=i*6) ((c 0 ae).trans rfl)).1,(iW h ((c 1 ae).trans rfl)).1,(iW h ((c 2 ae).trans rfl)).1,(iW h ((c 3 ae).trans rfl)).1,(iW h ((c 4 ae).trans rfl)).1,(iW h ((c 5 ae).trans rfl)).1⟩
 ·refine hk _ ?_;rw[aL,aN hi];exact a9 hi
theorem Mn (k R A B I n:Int)(w:az):J O 74 #[eb k R A B I n] w fun e w'=>e=M6 (bK (k==15||k==16))/\C w.heap.size w w':=by
 have ba:=aw w (cH k R A B I n)
 obtain⟨z0,_⟩:=ez (aP w (cH k R A B I n))
 by_cases h:k=15
 ·subst h;exact wx
 ·have c:(k==15)=K:=by simpa using h
  rw[c];by_cases b:k=16
  ·subst b;exact wx
  ·have d:(k==16)=K:=by simpa using b
   rw[d];exact wx
def gq (l:List S6):List S6:=l.filter (fun x=>!(x.k==15||x.k==16))
theorem Mq (l:List S6)(x:S6):gq (l++[x])=gq l++if(x.k==15||x.k==16)=Nc then[] else[x]:=by
 unfold gq;rw[List.filter_append]
 congr 1
 by_cases h:(x.k==15||x.k==16)=Nc
 ·rw[aJ h];simp only [CB,h,Bool.not_true]
 ·rw[aI h];have h:(x.k==15||x.k==16)=K:=by simpa using h
  simp only [CB,h,Bool.not_false]
theorem Mr (l:List S6)(ad:Option bG)(cp:Nat)(w:az)(hl:gn w ad l)(hm:L l<=2000):
 J O 34 #[M0 ad (L l) cp] w fun e w'=>∃o rc,e=M6 (M0 o (L (gq l)) rc)/\aC w' (I (M2 w)) 44 6 (M0 o (L (gq l)) rc) (L (gq l)) (fX (gq l))/\C (I (M2 w)) w w':=by
 obtain⟨bd,be,bg,bi,bl⟩:=bV CK;have bn:aA (gn w ad l):=hl;have ai:aA (L l<=2000):=hm;clear hl hm;go_enter func34,ntmps34;go_wp2_with fail
 go_loopw [3,8] (fun rv iv wr=>∃(i:Nat)(o:Option bG)(rc:Nat),i<=L l/\iv=ak i/\rv=M0 o (L (gq (l.take i))) rc/\aA (aC wr (I (M2 w)) 44 6 (M0 o (L (gq (l.take i))) rc) (L (gq (l.take i))) (fX (gq (l.take i))))/\aA (C (I (M2 w)) w wr)) (fun _ iv _=>L l-M (bN iv))
 case atStart=>exact⟨0,M9,0,a5 _,rfl,rfl,bf _ _ _ _,aH _ _⟩
 case round=>
  obtain⟨i,o,rc,hi,rfl,rfl,al,t⟩:=hrel;by_cases am:i<L l
  ·obtain⟨b1,b2,bo,l0,hc⟩:=bn.o aa;obtain⟨an,_⟩:=hc i am;subst bo;clear hc;have q0:(0:Int)<=(i:Int):=aa;have q1:(i:Int)<(L l:Int):=aa;have n:aA (gq (l.take (i+1))=gq (l.take i)++if((M8 l i gL).k==15||(M8 l i gL).k==16)=Nc then[] else[M8 l i gL]):=by show _=_;rw[pj l am,Mq]
   have bp:aA (L (gq (l.take i))<=2000):=by
    have:=bm (fun x:S6=>!(x.k==15||x.k==16)) (l.take i)
    rw[bz] at this
    have:=ai.o;show L (CB _ _)<=_;omega
   generalize M8 l i gL=st at*;obtain⟨c,sR,f,g,m,sn⟩:=st;obtain⟨ao,y1,ap,ar,aB,aF⟩:=an.below t.o l0;dsimp only at ao y1 ap ar aB aF;have v:=aw wr (cH c sR f g m sn)
   have s:aA ((wr.alloc (cH c sR f g m sn)).heap[I (M2 wr)]?=Z (cH c sR f g m sn)/\C (I (M2 w)) w (wr.alloc (cH c sR f g m sn))/\aC (wr.alloc (cH c sR f g m sn)) (I (M2 w)) 44 6 (M0 o (L (gq (l.take i))) rc) (L (gq (l.take i))) (fX (gq (l.take i)))):=⟨aP _ _,t.o.trans (v.mono t.o.size),fC al.o _⟩
   have P:=Mn c sR f g m sn (wr.alloc (cH c sR f g m sn))
   clear an v t al;obtain⟨z0,F,N,S,W,ab⟩:=ez s.o.1
   go_upto_region 5 with fail
   generalize wr.alloc (cH c sR f g m sn)=b3 at*;generalize I (M2 wr)=aR at*;clear ao y1 ap ar aB aF;generalize gq (l.take i)=Q at*;go_wp2_with fail;refine P.mono ?_;clear P;rintro e p ⟨rfl,ag⟩
   have aV:=(ag.block aR (lt_of_some s.o.1)).trans s.o.1;have q:aA (p.heap[aR]?=Z (cH c sR f g m sn)/\C (I (M2 w)) w p/\aC p (I (M2 w)) 44 6 (M0 o (L Q) rc) (L Q) (fX Q)):=⟨aV,s.o.2.1.trans (ag.mono s.o.2.1.size),cM s.o.2.2 (fun k e=>ag.block k (cv s.o.2.2 k e).2)⟩
   clear z0 F N S W ab ag aV s;obtain⟨z0,F,N,S,W,ab⟩:=ez q.o.1;cases hb:(c==15||c==16)
   ·rw[hb] at n;have n:aA (gq (l.take (i+1))=Q++[⟨c,sR,f,g,m,sn⟩]):=n;have v:=aw p (cH c sR f g m sn)
    have a0:I (M2 w)<=I (M2 p):=q.o.2.1.size;have br:=bp.o;have hM:=ai.o;go_wp2_with (at_builtin;refine wpList_append_lies _ rfl _ _ 36 rfl (I (M2 w)) 44 bd (bF #[ak 0,ak 0,ak 0,ak 0,ak 0,ak 0]) 6 48 underlying36 be bg bi bl rfl ae (M0 o (L Q) rc) (L Q) (fX Q) rfl (fC q.o.2.2 _) ⟨I (M2 p),0,M9⟩ 1 1 (e6 ⟨c,sR,f,g,m,sn⟩) rfl rfl ?_ ?_ ae (by unfold maxLen;omega) aa (by simp;omega) _ rfl ?_;(intro j u d;have d:=d;match j,d with|0,d=>(cases d;simp[Addr.add])|1,d=>(cases d;simp[Addr.add])|2,d=>(cases d;simp[Addr.add])|3,d=>(cases d;simp[Addr.add])|4,d=>(cases d;simp[Addr.add])|5,d=>(cases d;simp[Addr.add]));(intro u a1;simp[e6] at a1;rcases a1 with rfl|rfl|rfl|rfl|rfl|rfl<;>rfl);intro bs bt a2 a3 a4 bx b0)
    have ba:aA (aC a2 (I (M2 w)) 44 6 (M0 (au bs) (L (gq (l.take (i+1)))) bt) (L (gq (l.take (i+1)))) (fX (gq (l.take (i+1))))/\C (I (M2 w)) w a2):=by
     rw[n.o,CH,a7];have e:fX [(⟨c,sR,f,g,m,sn⟩:S6)]=e6 ⟨c,sR,f,g,m,sn⟩:=by simp[fX]
     rw[e];exact⟨a3,(q.o.2.1.trans (v.mono a0)).grown a4 (by simp;omega) (fun b e=>(cv q.o.2.2 b e.symm).1)⟩
    have B:(L Q+1)=L (gq (l.take (i+1))):=by rw[n.o,a7];rfl
    rw[B];clear B br a0 a3 a4 bx b0 v q n z0 F N S W ab hb;go_wp2_with fail;go_roundw
    case rel=>exact⟨i+1,_,_,aa,aj,rfl,⟨ba.o.1,ba.o.2⟩⟩
    case measure=>simp[bN];omega
   ·rw[hb] at n;have n:aA (gq (l.take (i+1))=Q++[]):=n;have hM:=ai.o;have bb:aA (aC p (I (M2 w)) 44 6 (M0 o (L (gq (l.take (i+1)))) rc) (L (gq (l.take (i+1)))) (fX (gq (l.take (i+1))))/\C (I (M2 w)) w p):=by rw[n.o,ji];exact⟨q.o.2.2,q.o.2.1⟩
    have B:L Q=L (gq (l.take (i+1))):=by rw[n.o,ji]
    rw[B];clear B q n z0 F N S W ab hb;go_wp2_with fail;go_roundw
    case rel=>exact⟨i+1,_,_,aa,aj,rfl,⟨bb.o.1,bb.o.2⟩⟩
    case measure=>simp[bN];omega
  ·obtain rfl:i=L l:=aa;rw[bk] at*;go_wp2_with fail;go_ret;exact⟨o,rc,rfl,al.o,t.o⟩
end Go.Proofs.YtpkjkjhanlbcoaaGreat
