import Derived.Test.YtpkjkjhanlbcoaaGreatJ16
import Derived.Maps.RangeWalk
open Array renaming size->I
open Bool renaming false->K,true->Nc
open Go renaming Addr->bG,Calls->J,TypeId->bU,Value->bD
open Go.Ending renaming returned->E
open Go.IntKind renaming i64->Q
open Go.Obj renaming cells->R
open Go.Proofs.Tryz renaming prog->O
open Go.Result renaming ok->v3
open Go.RowKit renaming Below->C
open Go.Value renaming agg->bF,bool->bK,int->U,ownBlock->Nh,slice->H,tuple->a8
open Go.World renaming alloc->bj,cell?->V,frozen?->bO,heap->G,ownsRow->aC,setCell->ay
open Int renaming toNat->M
open List renaming getD->X,length->MZ
open Nat renaming zero_add->b7
open Option renaming none->Y,some->Z
open Option.some renaming inj->qo
namespace Go.Proofs.YtpkjkjhanlbcoaaGreat
set_option maxRecDepth 100000
set_option maxHeartbeats 8000000
open Tryz
open Go.RowKit W Kp cq
theorem Bd {P:Prop}(h:P:=by
 go_wp2_with fail;refine(r6 _ _).mono ?_;rintro e w2 ⟨rfl,hb2⟩
 have hq:=(hb2.block (w.heap.size+1+1) ac).trans (vi w _ _ _)
 obtain⟨e0,e1,f0,lw⟩:=du hq;have HN:=hide hq;have HB:=hide (b1.trans (hb2.mono b1.size))
 go_wp2_with fail;obtain⟨r0,r1,_,_⟩:=du (hD (v1:=ak 1) (v2:=ak 0) HN.o)
 exact a6 (v:=.agg #[ak 1,ak 0]) (by simp[results,results209,go_sem,r0,r1]) rfl ⟨rfl,(HB.o.setCell (by simp;omega) _).setCell (by simp;omega) _⟩):P:=h
theorem Be {P:Prop}(h:P:=by
 rintro e w1 ⟨rfl,hb⟩
 have HB:=hide (((aH _ w).alloc b8 _).trans (hb.mono ac))
 go_wp2;go_ret2;exact⟨rfl,HB.o.alloc HB.o.size _⟩):P:=h
def hld (v:bD):Option (DataW bD×List MemPlace):=Z (.held v,[])
theorem qf:Maps.Keyed O 2:=Maps.int_keyed underlying2
theorem vj {a:Int}(h0:0<=a)(b:a<1152921504606846976):keyOf O 2 (.int Q a)=Z (.int Q a):=Maps.keyOf_int_mk underlying2 (WalkArith.wf_i64 aa)
def qg (D:DataW bD)(f:Int->Option bD):Prop:=∀x:Int,Maps.has D (.int Q x)=(f x).isSome/\∀v,f x=Z v->∀z,D.atKey (.int Q x) z=.held v
def eQ (w:az)(b n:Nat)(f:Int->Option bD):Prop:=∃D,w.ownsMap O 2 hld b n D/\qg D f
def j8 (f:Int->Option bD)(x:Int)(v:bD):Int->Option Value:=fun y=>if y=x then Z v else f y
def gS (w:az)(b r n:Nat)(f:Int->Option bD)(left:Int->Bool)(c:Nat):Prop:=∃D L,w.ranges O 2 hld b r n D L c/\qg D f/\∀x:Int,L (.int Q x)=left x
section
variable {w w':az}{b r n c:Nat}{f:Int->Option bD}{t e:bU}{left:Int->Bool}
theorem eQ.made (w:az):eQ (w.alloc (.map #[] 0)) (I (G w)) 0 (fun _=>Y):=⟨_,World.ownsMap_made w O 2 hld,fun _=>⟨rfl,fun _ h=>by grind⟩⟩
theorem eQ.lt (h:eQ w b n f):b<I (G w):=let⟨_,h,_⟩:=h;h.lt
theorem eQ.same (h:eQ w b n f)(e:w'.heap[b]?=w.heap[b]?):eQ w' b n f:=by obtain⟨D,⟨c,d,hb,r⟩,g⟩:=h;exact⟨D,⟨c,d,e.trans hb,r⟩,g⟩
theorem eQ.blk (h:eQ w b n f):∃c k,w.heap[b]?=Z (.map c k):=let⟨_,⟨c,k,hb,_⟩,_⟩:=h;(by grind)
theorem eQ.put (h:eQ w b n f)(ht:prog.underlying t=Z (.map 2 e))(hn:n<100000){x:Int}(h0:0<=x)(i:x<1152921504606846976)(v:bD):
 ∃w',(Instr.mapUpdate t (.map (Z b)) (ak x) v).run O w=.ok () w'/\eQ w' b (n+1) (j8 f x v)/\w.grownBy w' (Z b):=by
 obtain⟨D,h,d⟩:=h;obtain⟨w',r1,j,r3⟩:=h.update qf ht (by unfold maxLen;omega) (vj h0 i) rfl;refine⟨w',r1,⟨_,j,fun y=>?_⟩,r3⟩
 unfold j8;by_cases g:y=x
 ·subst g;rw[aJ rfl];exact⟨Maps.has_put_same (k:=.int Q y) h.isMap trivial _,fun u c z=>by cases c;exact Maps.atKey_put_same (k:=.int Q y) h.isMap trivial _ _⟩
 ·rw[aI g,Maps.has_put_other (by grind)];exact⟨(d y).1,fun u c z=>by rw[Maps.atKey_put_other (by grind)];exact(d y).2 u c z⟩
theorem qg.val {D:DataW bD}(b:qg D f){x:Int}{z v:bD}{ps:List MemPlace}(h:hld v=Z (D.atKey (.int Q x) (.held z),ps)):v=(f x).getD z:=by
 have c:=(Prod.mk.inj (qo h)).1;cases hf:f x with
 |none=>
  rw[Maps.atKey_of_not_has (by rw[(b x).1,hf];rfl)] at c
  grind
 |some u=>
  rw[(b x).2 u hf] at c
  grind
theorem eQ.look (h:eQ w b n f)(ht:prog.underlying t=Z (.map 2 e)){z:bD}(hz:(zeroValue e).run O w=.ok z w){x:Int}(h0:0<=x)(c:x<1152921504606846976):
 (Instr.lookup t (.map (Z b)) (ak x) K).run O w=.ok ((f x).getD z) w:=by
 obtain⟨D,h,d⟩:=h;obtain⟨v,ps,r1,g⟩:=h.lookup qf ht hz rfl (vj h0 c)
 grind [qg.val]
theorem eQ.look_ok (h:eQ w b n f)(ht:prog.underlying t=Z (.map 2 e)){z:bD}(hz:(zeroValue e).run O w=.ok z w){x:Int}(h0:0<=x)(d:x<1152921504606846976):
 (Instr.lookup t (.map (Z b)) (ak x) Nc).run O w=.ok (a8 #[(f x).getD z,.bool (f x).isSome]) w:=by
 obtain⟨D,h,c⟩:=h;obtain⟨v,ps,r1,g⟩:=h.look_ok qf ht hz rfl (vj h0 d)
 rw[r1,c.val g,(c x).1]
theorem gS.nZ (h:gS w b r n f left c):eQ w b n f:=let⟨D,_,h,d,_⟩:=h;⟨D,h.owns,d⟩
theorem gS.left_eq (h:gS w b r n f left c):w.rangeLeft b r=c:=let⟨_,_,h,_⟩:=h;h.left_eq
theorem gS.lt (h:gS w b r n f left c):r<I (G w):=let⟨_,_,h,_⟩:=h;h.lt
theorem gS.same (h:gS w b r n f left c)(hb:w'.heap[b]?=w.heap[b]?)(hr:w'.heap[r]?=w.heap[r]?):gS w' b r n f left c:=by obtain⟨D,L,⟨d,e,g,seen,c0,i,j,k,l,m,o⟩,q⟩:=h;exact⟨D,L,⟨d,e,g,seen,c0,hb.trans i,j,k,l,hr.trans m,o⟩,q⟩
theorem eQ.range (h:eQ w b n f)(ht:prog.underlying t=Z (.map 2 e)):
 ∃w' c,(Instr.range t (.map (Z b))).run O w=.ok (aq (I (G w))) w'/\gS w' b (I (G w)) n f (fun x=>(f x).isSome) c/\w.grownBy w' Y/\I (G w')=I (G w)+1:=by
 obtain⟨D,h,d⟩:=h;obtain⟨w',r1,g,r3,i⟩:=h.range qf ht;exact⟨w',_,r1,⟨D,_,g,d,fun x=>(d x).1⟩,r3,i⟩
theorem gS.next (h:gS w b r n f left c)(ty:bU):(c=0/\(∀x,left x=K)/\(Instr.next (aq r) K ty).run O w=.ok (a8 #[.bool K]) w)\/
 ∃x v w' d,left x=Nc/\f x=Z v/\(Instr.next (aq r) K ty).run O w=.ok (a8 #[.bool Nc,ak x,v]) w'/\
  gS w' b r n f (fun y=>left y&&!(y==x)) d/\d<c/\w.grownBy w' (Z r)/\I (G w')=I (G w)/\(Instr.entry (aq r)).run O w'=.ok (a8 #[ak x,v]) w':=by
 obtain⟨D,L,h,e,i⟩:=h;rcases h.next qf ty with⟨h0,hl,j⟩|⟨key,v,F,y,w',d,l,m,hv,k,j,o,p,q,s,t⟩
 ·grind
 ·obtain⟨x,rfl,rfl,N⟩:=Maps.keyOf_int_inv underlying2 l;have hy:y.1=.held v:=by cases hv;rfl
  have B:f x=Z v:=by
   cases hf:f x with
   |none=>
    have g:=k (.lit (.int Q 0))
    rw[Maps.atKey_of_not_has (by rw[(e x).1,hf];rfl),hy] at g
    grind
   |some u=>
    have g:=k (.lit (.int Q 0))
    rw[(e x).2 u hf,hy] at g
    grind
  refine aK ⟨x,v,w',d,(i x).symm.trans m,B,j,⟨D,_,o,e,fun z=>?_⟩,p,q,s,t⟩
  rw[i z,show(Lit.int Q z).sameKey (.int Q x)=(z==x) from(by show decide _=_;grind)]
end
def qh (T:List cJ)(x:Int):Bool:=decide (0<=x)&&(decide (M x<MZ T)&&!(X T (M x) t0).2.2.2)
theorem Bf {T:List cJ}{x:Int}:qh T x=Nc↔0<=x/\cA T (M x):=by unfold qh cA;simp
theorem I8 {T:List cJ}{x:Int}(h:¬(0<=x/\cA T (M x))):qh T x=K:=by
 cases e:qh T x
 ·rfl
 ·exact absurd (Bf.1 e) h
abbrev Fm:=Nat->Option bG×Nat
abbrev eV (T:List cJ)(fm:Fm)(i:Nat):Value:=H (fm i).1 (MZ (X T i t0).2.1) (fm i).2
abbrev gA (T:List cJ)(fm:Fm)(i:Nat):Value:=bF #[ak (X T i t0).1,eV T fm i]
def iC (T:List cJ)(fm:Fm)(x:Int):Option Value:=if qh T x=Nc then Z (gA T fm (M x)) else Y
theorem jG {T:List cJ}{fm:Fm}{x:Int}(h:0<=x/\cA T (M x)):iC T fm x=Z (gA T fm (M x)):=by unfold iC;rw[aJ (Bf.2 h)]
theorem mr {T:List cJ}{fm:Fm}{x:Int}(h:¬(0<=x/\cA T (M x))):iC T fm x=Y:=by unfold iC;rw[I8 h];rfl
structure hP where
 own:Nat->Nat
 mb:Nat
 bp:Nat
 rb:Nat
 fm:Fm
 fM:Nat
 n:Nat
 a0:Option bG
 k0:Nat
 a1:Option bG
 k1:Nat
structure G2 (l:hP)(T:List cJ)(w:az):Prop where
 mp:eQ w l.mb l.n (iC T l.fm)
 mn:l.n<=MZ T
 dz:l.own l.mb=2
 fl:∀i,cA T i->aC w 0 97 2 (eV T l.fm i) (MZ (X T i t0).2.1) (ev (X T i t0).2.1)
 fg:∀i,cA T i->∀k,Z k=Nh (eV T l.fm i)->l.own k=10+i
 fM:∀i,cA T i->(X T i t0).2.2.1=decide (i<l.fM)
 al:l.fM<=MZ T
structure G3 (l:hP)(r q:List cf)(w:az):Prop where
 sd:fU w l.bp l.a0 l.k0 l.a1 l.k1 r q
 so:l.own l.bp=3
 ro:∀k,Z k=Nh (Value.slice l.a0 (MZ r) l.k0)->l.own k=5
 mT:∀k,Z k=Nh (Value.slice l.a1 (MZ q) l.k1)->l.own k=6
structure G4 (l:hP)(rs:List (Int×Int))(w:az):Prop where
 rt:w.heap[l.rb]?=Z (R (ev rs).toArray 97 (0,0))
 rl:MZ rs=12
 ro:l.own l.rb=4
structure dS (ce:Nat)(cj b_:Int)(l:hP)(s:cn)(w:az):Prop where
 blk:w.heap[ce]?=Z (R #[ak cj,ak b_,.map (Z l.mb),ak (MZ s.T),ak l.fM,aq l.bp,H (au l.rb) 12 12] 187 (0,0))
 bo:l.own ce=1
 g2:G2 l s.T w
 g3:G3 l s.rg s.wt w
 g4:G4 l s.rs w
 lt:∀b,l.own b≠0->b<I (G w)
section
variable {ce:Nat}{cj b_:Int}{l:hP}{s:cn}{w w':az}{T:List cJ}{r q:List cf}{rs:List (Int×Int)}
theorem G2.keep (h:G2 l T w)(hk:∀b,l.own b=2\/10<=l.own b->w'.heap[b]?=w.heap[b]?):G2 l T w':=
 {
  h with
  mp:=h.mp.same (hk _ (aM h.dz))
  fl:=fun i hi=>cM (h.fl i hi) (fun k e=>hk k (aK (by rw[h.fg i hi k e];omega)))}
theorem G3.keep (h:G3 l r q w)(hk:∀b,l.own b=3\/l.own b=5\/l.own b=6->w'.heap[b]?=w.heap[b]?):G3 l r q w':=
 {h with sd:=h.sd.keep (hk _ (aM h.so)) (fun k e=>hk k (aK (aM (h.ro k e)))) (fun k e=>hk k (aK (aK (h.mT k e))))}
theorem G4.keep (h:G4 l rs w)(hk:∀b,l.own b=4->w'.heap[b]?=w.heap[b]?):G4 l rs w':={h with rt:=(hk _ h.ro).trans h.rt}
theorem dS.keep (h:dS ce cj b_ l s w)(hs:I (G w)<=I (G w'))(hk:∀b,l.own b≠0->w'.heap[b]?=w.heap[b]?):dS ce cj b_ l s w':=
 {
  blk:=(hk _ (by rw[h.bo];decide)).trans h.blk
  bo:=h.bo
  g2:=h.g2.keep (fun b hb=>hk b aa)
  g3:=h.g3.keep (fun b hb=>hk b aa)
  g4:=h.g4.keep (fun b hb=>hk b aa)
  lt:=fun b hb=>aO (h.lt b hb) hs}
end
def cG (ce:Nat)(cj b_:Int)(rb:Nat):dC cn where
 J F s w:=∃l,dS ce cj b_ l s w/\l.rb=rb/\∀b,F b↔l.own b≠0
 lt:=by rintro F s w ⟨l,h,_,c⟩ b hb;exact h.lt b ((c b).1 hb)
 keep:=by rintro F s w w' ⟨l,h,hr,c⟩ hs hk;exact⟨l,h.keep hs (fun b hb=>hk b ((c b).2 hb)),hr,c⟩
section
variable {ce:Nat}{cj b_:Int}{l:hP}{s:cn}{w w':az}
theorem dS.below (h:dS ce cj b_ l s w)(hb:C (I (G w)) w w'):dS ce cj b_ l s w':=h.keep hb.size (fun b ho=>hb.block b (h.lt b ho))
theorem dS.cells (h:dS ce cj b_ l s w):V w (av ce 0)=Z (ak cj)/\V w (av ce 1)=Z (ak b_)/\V w (av ce 2)=Z (.map (Z l.mb))/\V w (av ce 3)=Z (ak (MZ s.T))/\V w (av ce 4)=Z (ak l.fM)/\
 V w (av ce 5)=Z (aq l.bp)/\V w (av ce 6)=Z (H (au l.rb) 12 12)/\(∀o,bO w (av ce o)=K)/\ce<I (G w):=by
 have b:=h.blk;refine⟨?_,?_,?_,?_,?_,?_,?_,fun o=>by simp[World.frozen?,b],lt_of_some b⟩<;>simp[World.cell?,b]
theorem dS.I9 {rb:Nat}(h:dS ce cj b_ l s w)(e:V w (av ce 6)=Z (H (au rb) 12 12)):l.rb=rb:=by have c:=h.cells.2.2.2.2.2.2.1;rw[e] at c;cases c;rfl
theorem G4.cells {rs:List _}(h:G4 l rs w):l.rb<I (G w)/\MZ rs=12/\
 (∀i,i<12->V w (av l.rb (i*2))=Z (ak (X rs i (0,0)).1)/\V w (av l.rb (i*2+1))=Z (ak (X rs i (0,0)).2)/\bO w (av l.rb (i*2))=K/\bO w (av l.rb (i*2+1))=K):=by
 have b:=h.rt;have hl:=h.rl;refine⟨lt_of_some b,hl,fun i hi=>?_⟩
 obtain⟨c,d⟩:=oo rs i aa;refine⟨?_,?_,by simp[World.frozen?,b],by simp[World.frozen?,b]⟩
 ·simp[World.cell?,b];simpa using c
 ·simp[World.cell?,b];simpa using d
end
theorem mU (w:az):(zeroValue 220).run O w=v3 (bF #[ak 0,H Y 0 0]) w:=by kernel_rfl
theorem gH (w:az)(a o:Obj):((w.alloc a).alloc o).heap[I (G w)+1]?=Z o:=by have h:=aP (w.alloc a) o;rwa [show I (G (w.alloc a))=I (G w)+1 by simp] at h
theorem du {w:az}{p:Nat}{a b:bD}{T:bU}(h:w.heap[p]?=Z (R #[a,b] T (0,0))):V w (av p 0)=Z a/\V w (av p 1)=Z b/\(∀o,bO w (av p o)=K)/\p<I (G w):=
 ⟨by simp[World.cell?,h],by simp[World.cell?,h],fun o=>by simp[World.frozen?,h],lt_of_some h⟩
section
variable {ce:Nat}{cj b_:Int}{l:hP}{s:cn}{w:az}
theorem vk (v:Int×Int)(hv:v.1≠3):
 J O 199 #[aq ce,bF #[ak v.1,ak v.2]] w fun e w'=>e=E (a8 #[bF #[ak 0,H Y 0 0],bK K])/\C (I (G w)) w w':=by
 go_wp2;exact a6 (by simp[results,results199,go_sem]) rfl ⟨rfl,(b9.alloc b8 _).alloc ac _⟩
theorem r7 (h:dS ce cj b_ l s w)(x:Int)(b:0<=x/\cA s.T x.toNat)(d:MZ s.T<=10000):
 J O 199 #[aq ce,.agg #[ak 3,ak x]] w fun e w'=>e=E (a8 #[gA s.T l.fm x.toNat,.bool Nc])/\C (I (G w)) w w':=by
 obtain⟨_,_,c2,_,_,_,_,_,f⟩:=h.cells;have hl:x<10000:=by have:=b.2.1;omega
 have L:∀W,C (I (G w)) w W->(Instr.lookup 184 (.map (Z l.mb)) (ak x) Nc).run O W=.ok (a8 #[gA s.T l.fm x.toNat,.bool Nc]) W:=fun W hb=>by
  have:=(h.below hb).g2.mp.look_ok (t:=184) (e:=220) underlying184 (mU W) (x:=x) b.1 aa;rw[jG b] at this
  exact this
 have b1:C (I (G w)) w ((w.alloc (R #[.int Q 3,.int Q x] 97)).alloc (R #[.int Q 0,.slice Y 0 0] 220)):=(b9.alloc b8 _).alloc ac _;have k:=(b1.cell (p:=av ce 2) f).trans c2;have m:V ((w.alloc (R #[.int Q 3,.int Q x] 97)).alloc (R #[.int Q 0,.slice Y 0 0] 220)) (av (I (G w)) 1)=Z (ak x):=by simp[go_sem]
 have hn:=gH w (R #[.int Q 3,.int Q x] 97) (R #[.int Q 0,.slice Y 0 0] 220)
 clear h d;dsimp only [gA,eV] at L⊢;generalize (s.T.getD x.toNat t0).1=kd at*;generalize MZ (s.T.getD x.toNat t0).2.1=n at*;generalize (l.fm x.toNat).1=ad at*;generalize (l.fm x.toNat).2=cp at*;clear b;go_enter func199,ntmps199;go_wp2_with fail;generalize (w.alloc (R #[.int Q 3,.int Q x] 97)).alloc (R #[.int Q 0,.slice Y 0 0] 220)=W at*;obtain⟨o,q,u,lw⟩:=du hn;have g:aA (_=_):=hn;have c:aA (C (I (G w)) w W):=b1;have i:=L _ b1.drew;have j:=L _ (b1.alloc b1.size (R #[.int Q 0,.slice Y 0 0] 220)).drew;clear L b1 hn
 go_region_held3 (fun w'=>V w' (av ce 2)=Z (.map (Z l.mb))/\V w' (av (I (G w)) 1)=Z (ak x)) (go_keep) (fail)
 all_goals
  clear i j;go_wp2_with fail;have hs:=c.o.size;obtain⟨r0,r1,_,_⟩:=du ((aS _ (R #[.int Q kd,.slice ad n cp] 220) _ (by simpa using lw)).trans (hD (v1:=ak kd) (v2:=.slice ad n cp) g.o))
  exact a6 (v:=a8 #[.agg #[ak kd,.slice ad n cp],.bool Nc]) (by simp[results,results199,go_sem,r0,r1]) rfl ⟨rfl,(((c.o.setCell ac _).setCell ac _).alloc (by simpa using hs) _).drew⟩
theorem Bg (h:dS ce cj b_ l s w)(v:Int×Int)(hv:v.1=3->0<=v.2/\cA s.T (M v.2))(d:MZ s.T<=10000):
 J O 200 #[aq ce,bF #[ak v.1,ak v.2]] w fun e w'=>e=E (bK (ie s.T v))/\C (I (G w)) w w':=by
 obtain⟨k,x⟩:=v;by_cases c:k=3
 ·subst c;have P:=r7 (h.below ((aH _ w).alloc b8 (R #[U Q 3,U Q x] 97))) x (hv rfl) d;have e:ie s.T (3,x)=decide ((X s.T (M x) t0).1=5):=by unfold ie;rw[Bool.eq_iff_iff];simp
  rw[e];dsimp only [gA,eV] at P⊢;generalize (X s.T (M x) t0).1=kd at*;generalize MZ (X s.T (M x) t0).2.1=n at*;generalize (l.fm (M x)).1=ad at*;generalize (l.fm (M x)).2=cp at*;go_enter func200,ntmps200;go_wp2_with fail;refine P.mono ?_;clear P;rintro e w1 ⟨rfl,hb⟩
  have b:=hide (((aH _ w).alloc b8 _).trans (hb.mono ac))
  clear hb;go_wp2;go_ret;exact⟨rfl,b.o.alloc b.o.size _⟩
 ·have e:ie s.T (k,x)=K:=by unfold ie;simp[c]
  rw[e];go_enter func200,ntmps200;go_wp2_with fail;refine(vk (ce:=ce) (w:=bj w (R #[U Q k,U Q x] 97)) (k,x) c).mono ?_;rintro e w1 ⟨rfl,hb⟩
  have b:=hide (((aH _ w).alloc b8 _).trans (hb.mono ac))
  go_wp2;go_ret;exact⟨rfl,b.o.alloc b.o.size _⟩
theorem Bh (h:dS ce cj b_ l s w)(v:Int×Int)(hv:v.1=3->0<=v.2/\cA s.T (M v.2))(c:MZ s.T<=10000)(hk:v.1=3->(X s.T (M v.2) t0).1=5):
 J O 232 #[aq ce,bF #[ak v.1,ak v.2]] w fun e w'=>e=E (a8 #[H Y 0 0,ak 2])/\C (I (G w)) w w':=by
 obtain⟨k,x⟩:=v;by_cases b:k=3
 ·subst b;have P:=r7 (h.below ((aH _ w).alloc b8 (R #[U Q 3,U Q x] 97))) x (hv rfl) c;have hk:=hk rfl;dsimp only [gA,eV] at P hk⊢;rw[hk] at P;generalize MZ (X s.T (M x) t0).2.1=n at*;generalize (l.fm (M x)).1=ad at*;generalize (l.fm (M x)).2=cp at*;go_enter func232,ntmps232;go_wp2_with fail;refine P.mono ?_;exact Be
 ·go_enter func232,ntmps232;go_wp2_with fail;refine(vk (ce:=ce) (w:=bj w (R #[U Q k,U Q x] 97)) (k,x) b).mono ?_;exact Be
theorem vl (h:dS ce cj b_ l s w)(x:Int)(hv:0<=x/\cA s.T (M x))(c:MZ s.T<=10000)(hk:(X s.T (M x) t0).1≠5):
 J O 232 #[aq ce,bF #[ak 3,ak x]] w fun e w'=>e=E (a8 #[eV s.T l.fm (M x),ak 0])/\C (I (G w)) w w':=by
 have P:=r7 (h.below ((aH _ w).alloc b8 (R #[U Q 3,U Q x] 97))) x hv c;dsimp only [gA,eV] at P hk⊢;generalize (X s.T (M x) t0).1=kd at*;go_enter func232,ntmps232;go_wp2_with fail;refine P.mono ?_;clear P;rintro e w1 ⟨rfl,hb⟩
 have b:=hide (((aH _ w).alloc b8 _).trans (hb.mono ac))
 clear hb;go_wp2_with fail;go_ret2;exact⟨rfl,b.o.alloc b.o.size _⟩
theorem Bj (h:dS ce cj b_ l s w)(v:Int×Int)(i:Int)(hv:v.1=3->0<=v.2/\cA s.T (M v.2))(b:MZ s.T<=10000)(hk:v.1=3->(X s.T (M v.2) t0).1=5):
 J O 201 #[aq ce,bF #[ak v.1,ak v.2],ak i] w fun e w'=>e=E (a8 #[bF #[ak 0,ak 0],ak 2])/\C (I (G w)) w w':=by
 obtain⟨k,x⟩:=v;have b1:C (I (G w)) w (bj (bj w (R #[U Q k,U Q x] 97)) (R #[U Q 0,U Q 0] 97)):=(b9.alloc b8 _).alloc ac _;go_enter func201,ntmps201;go_wp2_with fail;refine(Bh (h.below b1) (k,x) hv b hk).mono ?_;rintro e w1 ⟨rfl,hb⟩
 have hq:=(hb.block (I (G w)+1) ac).trans (gH w (R #[U Q k,U Q x] 97) (R #[U Q 0,U Q 0] 97))
 obtain⟨c,d,f,lw⟩:=du hq;go_wp2_with fail;obtain⟨r0,r1,_,_⟩:=du (hD (v1:=ak 0) (v2:=ak 0) (hide hq).o)
 exact a6 (by simp[results,results201,go_sem,r0,r1]) rfl ⟨rfl,((hide (b1.trans (hb.mono (by simp;omega)))).o.setCell ac _).setCell ac _⟩
theorem Bk (h:dS ce cj b_ l s w)(x i:Int)(hv:0<=x/\cA s.T (M x))(b:MZ s.T<=10000)(hk:(X s.T (M x) t0).1≠5)(hi:i<0\/(MZ (X s.T (M x) t0).2.1:Int)<=i):
 J O 201 #[aq ce,bF #[ak 3,ak x],ak i] w fun e w'=>e=E (a8 #[bF #[ak 0,ak 0],ak 1])/\C (I (G w)) w w':=by
 have b1:C (I (G w)) w (bj (bj w (R #[U Q 3,U Q x] 97)) (R #[U Q 0,U Q 0] 97)):=(b9.alloc b8 _).alloc ac _;have P:=vl (h.below b1) x hv b hk;clear h hv b hk;dsimp only [eV] at P;generalize MZ (X s.T (M x) t0).2.1=n at*;generalize (l.fm (M x)).1=ad at*;generalize (l.fm (M x)).2=cp at*;by_cases h0:i<0
 all_goals
  first
   |(have f:(n:Int)<=i:=by omega)
   |skip
  go_enter func201,ntmps201;go_wp2_with fail;refine P.mono ?_;clear P;rintro e w1 ⟨rfl,hb⟩
  have hq:=(hb.block (I (G w)+1) ac).trans (gH w (R #[U Q 3,U Q x] 97) (R #[U Q 0,U Q 0] 97))
  obtain⟨g,j,k,lw⟩:=du hq;have c:=hide hq;have d:=hide (b1.trans (hb.mono (by simp;omega)))
  clear hb b1 hq hi;go_wp2_with fail;obtain⟨r0,r1,_,_⟩:=du (hD (v1:=ak 0) (v2:=ak 0) c.o)
  exact a6 (v:=a8 #[bF #[ak 0,ak 0],ak 1]) (by simp[results,results201,go_sem,r0,r1]) rfl ⟨rfl,(d.o.setCell ac _).setCell ac _⟩
theorem Bl (h:dS ce cj b_ l s w)(x:Int)(i:Nat)(hv:0<=x/\cA s.T (M x))(f:MZ s.T<=10000)(hk:(X s.T (M x) t0).1≠5)(hi:i<MZ (X s.T (M x) t0).2.1):
 J O 201 #[aq ce,bF #[ak 3,ak x],ak i] w fun e w'=>e=E (a8 #[bF #[ak (X (X s.T (M x) t0).2.1 i (0,0)).1,ak (X (X s.T (M x) t0).2.1 i (0,0)).2],ak 0])/\C (I (G w)) w w':=by
 have b1:C (I (G w)) w (bj (bj w (R #[U Q 3,U Q x] 97)) (R #[U Q 0,U Q 0] 97)):=(b9.alloc b8 _).alloc ac _;have P:=vl (h.below b1) x hv f hk;have g:=it (h.g2.fl _ hv.2)
 obtain⟨b,o,d,lb,j⟩:=g aa;have hc:=j i hi;dsimp only [eV] at P;rw[d] at P;generalize X (X s.T (M x) t0).2.1 i (0,0)=y at*;generalize MZ (X s.T (M x) t0).2.1=n at*;generalize (l.fm (M x)).2=cp at*;clear d;go_enter func201,ntmps201;go_wp2_with fail;refine P.mono ?_;clear P;rintro e w1 ⟨rfl,hb⟩
 have hq:=(hb.block (I (G w)+1) ac).trans (gH w (R #[U Q 3,U Q x] 97) (R #[U Q 0,U Q 0] 97))
 obtain⟨m,q,t,lw⟩:=du hq;have k:=hide hq;have c:=hide (b1.trans (hb.mono (by simp;omega)))
 have g0:=(c.o.cell (p:=av b (o+i*2)) lb).trans hc.1;have g1:=(c.o.cell (p:=av b (o+i*2+1)) lb).trans hc.2;clear hb b1 hq hc;go_wp2_with fail;obtain⟨r0,r1,_,_⟩:=du (hD (v1:=ak y.1) (v2:=ak y.2) k.o)
 exact a6 (v:=a8 #[bF #[ak y.1,ak y.2],ak 0]) (by simp[results,results201,go_sem,r0,r1]) rfl ⟨rfl,(c.o.setCell ac _).setCell ac _⟩
theorem r6 (x:Int)(w:az):J O 205 #[ak x] w fun e w'=>e=E (bF #[ak 1,ak x])/\C (I (G w)) w w':=by go_enter func205,ntmps205;go_wp2;exact a6 (v:=bF #[ak 1,ak x]) (by simp[results,results205,go_sem]) rfl ⟨rfl,b9.alloc b8 _⟩
theorem o4 (x:Int)(w:az):J O 239 #[ak x] w fun e w'=>e=E (bF #[ak 3,ak x])/\C (I (G w)) w w':=by go_enter func239,ntmps239;go_wp2;exact a6 (v:=bF #[ak 3,ak x]) (by simp[results,results239,go_sem]) rfl ⟨rfl,b9.alloc b8 _⟩
end
section
variable {ce:Nat}{cj b_:Int}{l:hP}{F:Nat->Prop}{s:cn}{w w':az}{T T':List cJ}
theorem I_ {fm:Fm}(b:∀i,cA T' i↔cA T i)(d:∀i,(X T' i t0).1=(X T i t0).1/\MZ (X T' i t0).2.1=MZ (X T i t0).2.1):iC T' fm=iC T fm:=by
 funext x
 by_cases h:0<=x/\cA T (M x)
 ·rw[jG h,jG ⟨h.1,(b _).2 h.2⟩];dsimp only [gA,eV];rw[(d _).1,(d _).2]
 ·rw[mr h,mr (fun c=>h ⟨c.1,(b _).1 c.2⟩)]
theorem r8 (T:List cJ)(j i:Nat)(y:Int×Int)(k:Nat):X (ig T j i y) k t0=if j=k/\j<MZ T then((X T j t0).1,(X T j t0).2.1.set i y,(X T j t0).2.2) else X T k t0:=by
 by_cases b:j=k
 ·subst b;by_cases c:j<MZ T
  ·simp[c]
  ·simp[c]
 ·simp[b]
theorem r9 (T:List cJ)(j i:Nat)(y:Int×Int)(k:Nat):cA (ig T j i y) k↔cA T k:=by
 unfold cA;rw[bh,r8];split
 ·rename_i h;rw[<-h.1]
 ·exact Iff.rfl
theorem dS.field (h:dS ce cj b_ l s w){j i:Nat}(n:cA s.T j)(hi:i<MZ (X s.T j t0).2.1)(y:Int×Int):∃b cp,eV s.T l.fm j=H (au b) (MZ (X s.T j t0).2.1) cp/\
 V w (av b (i*2))=Z (ak (X (X s.T j t0).2.1 i (0,0)).1)/\V w (av b (i*2+1))=Z (ak (X (X s.T j t0).2.1 i (0,0)).2)/\(∀o,bO w (av b o)=K)/\b<I (G w)/\l.own b=10+j/\
 ∀w' W:az,(∀k,l.own k≠0->k≠b->w'.heap[k]?=w.heap[k]?)->I (G w)<=I (G w')->W.heap[b]?=w.heap[b]?->w'.heap[b]?=(ay (ay W ⟨b,i*2,Y⟩ (U Q y.1)) ⟨b,i*2+1,Y⟩ (U Q y.2)).heap[b]?->dS ce cj b_ l {s with T:=ig s.T j i y} w':=by
 have hr:=h.g2.fl j n;obtain⟨b,cp,e⟩:=eW hr aa;have ho:=h.g2.fg j n b (by rw[e];rfl)
 obtain⟨ab,t⟩:=fF hr b (by rw[e];rfl)
 obtain⟨ad,o,u,lb,x⟩:=it hr aa;have B:(l.fm j).1=au b:=by injection e
 rw[B] at u;cases u;have hc:=x i hi;rw[b7] at hc;refine⟨b,cp,e,hc.1,hc.2,fun o=>by simp[World.frozen?,t],lt_of_some t,ho,fun w' W hk hs F hb=>?_⟩
 have v:(X (ig s.T j i y) j t0)=((X s.T j t0).1,(X s.T j t0).2.1.set i y,(X s.T j t0).2.2):=by rw[r8,aJ ⟨rfl,n.1⟩]
 have m:∀k,(X (ig s.T j i y) k t0).1=(X s.T k t0).1/\MZ (X (ig s.T j i y) k t0).2.1=MZ (X s.T k t0).2.1/\(X (ig s.T j i y) k t0).2.2=(X s.T k t0).2.2:=fun k=>by
  rw[r8];split
  ·rename_i N;rw[<-N.1];exact⟨rfl,ac,rfl⟩
  ·exact⟨rfl,rfl,rfl⟩
 refine {blk:=?_,bo:=h.bo,g2:=?_,g3:=h.g3.keep (fun k d=>hk k aa (fun c=>by rw[c] at d;omega)),g4:=h.g4.keep (fun k d=>hk k aa (fun c=>by rw[c] at d;omega)),lt:=fun k d=>aO (h.lt k d) hs}
 ·rw[hk ce (by rw[h.bo];decide) (fun c=>by have:=h.bo;rw[c] at this;omega),h.blk];rw[bh]
 ·refine {mp:=?_,mn:=by rw[bh];exact h.g2.mn,dz:=h.g2.dz,fl:=fun k d=>?_,fg:=fun k d=>?_,fM:=fun k d=>?_,al:=by rw[bh];exact h.g2.al}
  ·rw[I_ (fun k=>r9 _ _ _ _ k) (fun k=>⟨(m k).1,(m k).2.1⟩)];exact h.g2.mp.same (hk _ (by rw[h.g2.dz];decide) (fun c=>by have:=h.g2.dz;rw[c] at this;omega))
  ·have p:=(r9 _ _ _ _ k).1 d;by_cases gV:k=j
   ·rw[gV,v];dsimp only [eV] at hr e⊢;rw[v];rw[bh,s9];have q:=nn (nn (cM (e▸hr) (fun g f=>by cases f;exact F)) (i*2) (ak y.1)) (i*2+1) (ak y.2)
    rw[e];exact cM q (fun g f=>by cases f;exact hb)
   ·have S:X (ig s.T j i y) k t0=X s.T k t0:=by rw[r8,aI (fun c=>gV c.1.symm)]
    dsimp only [eV];rw[S];exact cM (h.g2.fl k p) (fun g f=>hk g (by rw[h.g2.fg k p g f];omega) (fun c=>by have q:=h.g2.fg k p g f;rw[c,ho] at q;omega))
  ·intro g f;refine h.g2.fg k ((r9 _ _ _ _ k).1 d) g ?_;dsimp only [eV] at f⊢;rw[(m k).2.1] at f;exact f
  ·rw[(m k).2.2];exact h.g2.fM k ((r9 _ _ _ _ k).1 d)
end
structure Cp where
 w0:az
 ce:Nat
 cj:Int
 b_:Int
 l:hP
 s:cn
 cp:Nat
 ab:Nat
 hb:Nat
def fi (T:List cJ)(fm:Fm)(A:List Bool)(x:Int):Option Value:=if 0<=x/\X A (M x) K=Nc then Z (gA T fm (M x)) else Y
def hdF (hd:Int->List (Int×Int))(hm:Int->Option bG×Nat)(x:Int):Option Value:=if(hd x).isEmpty=Nc then Y else Z (H (hm x).1 (MZ (hd x)) (hm x).2)
structure cZ (c:Cp)(own:Nat->Nat)(vt:bD)(n1 n2:Nat)(hm:Int->Option bG×Nat)(st:dE)(w:az):Prop where
 ol:∀k,k<I (G c.w0)->w.heap[k]?=c.w0.heap[k]?
 sz:I (G c.w0)<=I (G w)
 cb:w.heap[c.cp]?=Z (R #[aq c.ce,.map (Z c.ab),vt,.map (Z c.hb)] 252 (0,0))
 co:own c.cp=1
 am:eQ w c.ab n1 (fi c.s.T c.l.fm st.A)
 ao:own c.ab=2
 an:n1+cnt st.A<=MZ c.s.T
 tr:aC w 0 2 1 vt (MZ st.td) (st.td.map (Value.int Q))
 tw:∀k,Z k=Nh vt->own k=3
 tn:MZ st.td+cnt st.A<=MZ c.s.T
 hq:eQ w c.hb n2 (hdF st.hd hm)
 ho:own c.hb=4
 hn:n2<=st.m
 hr:∀x,st.hd x≠[]->0<=x/\aC w 0 97 2 (H (hm x).1 (MZ (st.hd x)) (hm x).2) (MZ (st.hd x)) (ev (st.hd x))
 hro:∀x,st.hd x≠[]->∀k,Z k=Nh (Value.slice (hm x).1 (MZ (st.hd x)) (hm x).2)->own k=10+M x
 lt:∀b,own b≠0->I (G c.w0)<=b/\b<I (G w)
section
variable {c:Cp}{own:Nat->Nat}{vt:bD}{n1 n2:Nat}{hm:Int->Option bG×Nat}{st:dE}{w w':az}
theorem cZ.keep (h:cZ c own vt n1 n2 hm st w)(hs:I (G w)<=I (G w'))(hk:∀b,b<I (G c.w0)\/own b≠0->w'.heap[b]?=w.heap[b]?):cZ c own vt n1 n2 hm st w':=
 {
  h with
  ol:=fun k e=>(by grind [ol])
  sz:=aU h.sz hs
  cb:=(by grind [co,cb])
  am:=h.am.same (by grind [ao])
  tr:=cM h.tr (by grind [tw])
  hq:=h.hq.same (by grind [ho])
  hr:=fun x d=>⟨(h.hr x d).1,cM (h.hr x d).2 (by grind [hro])⟩
  lt:=fun b hb=>⟨(h.lt b hb).1,aO (h.lt b hb).2 hs⟩}
theorem cZ.below (h:cZ c own vt n1 n2 hm st w)(hb:C (I (G w)) w w'):cZ c own vt n1 n2 hm st w':=h.keep hb.size (fun b ho=>hb.block b (ho.elim (fun c=>aO c h.sz) (fun c=>(h.lt b c).2)))
end
def r_ (c:Cp):dC dE where
 J F st w:=∃own vt n1 d hm,cZ c own vt n1 d hm st w/\∀b,F b↔b<I (G c.w0)\/own b≠0
 lt:=by
  rintro F st w ⟨own,vt,n1,d,hm,h,f⟩ b hb;rcases(f b).1 hb with e|e
  ·exact aO e h.sz
  ·exact(h.lt b e).2
 keep:=by rintro F st w w' ⟨own,vt,n1,d,hm,h,f⟩ hs hk;exact⟨own,vt,n1,d,hm,h.keep hs (fun b hb=>hk b ((f b).2 hb)),f⟩
structure fV (own:Nat->Nat)(w:az)(own':Nat->Nat)(w':az):Prop where
 fr:Fr (fun b=>own b=1\/own b=2\/own b=3) w w'
 old:∀b,b<I (G w)->own' b=own b
 nw:∀b,I (G w)<=b->own' b≠0->own' b=3
section
variable {c:Cp}{own own' mV:Nat->Nat}{vt:bD}{n1 n2:Nat}{hm:Int->Option bG×Nat}{st:dE}{w w' w'':az}
theorem fV.of (h:C (I (G w)) w w')(hl:∀b,own b≠0->b<I (G w)):fV own w own w':=⟨Fr.of h,fun _ _=>rfl,fun b hb ho=>by grind⟩
theorem fV.trans (h:fV own w own' w')(k:fV own' w' mV w''):fV own w mV w'':=by
 refine⟨h.fr.trans k.fr (fun i hi=>?_),fun b hb=>(k.old b (aO hb h.fr.size)).trans (h.old b hb),fun b hb ho=>?_⟩
 ·grind [old]
 ·by_cases c:b<I (G w')
  all_goals grind [old,nw]
theorem cZ.cells (h:cZ c own vt n1 n2 hm st w):V w (av c.cp 0)=Z (aq c.ce)/\V w (av c.cp 1)=Z (.map (Z c.ab))/\V w (av c.cp 2)=Z vt/\V w (av c.cp 3)=Z (.map (Z c.hb))/\(∀o,bO w (av c.cp o)=K)/\c.cp<I (G w):=by have b:=h.cb;refine⟨?_,?_,?_,?_,fun o=>by simp[World.frozen?,b],lt_of_some b⟩<;>simp[World.cell?,b]
theorem cZ.gv (h:cZ c own vt n1 n2 hm st w)(hg:dS c.ce c.cj c.b_ c.l c.s c.w0):dS c.ce c.cj c.b_ c.l c.s w:=(by grind [dS.keep,sz,ol,dS.lt])
theorem Ja (T:List cJ)(fm:Fm)(A:List Bool){x:Int}(h0:0<=x)(hl:M x<MZ A):j8 (fi T fm A) x (gA T fm (M x))=fi T fm (A.set (M x) Nc):=by grind [j8,fi]
theorem vm {T:List cJ}{fm:Fm}{A:List Bool}{x:Int}(h0:0<=x):(fi T fm A x).isSome=cW A x:=by grind [fi,cW]
theorem cZ.gB {cT:bD}{v:Int×Int}(h:cZ c own vt n1 n2 hm st w)(hi:d_ st.A v=K)(h0:0<=v.2)(hl:M v.2<MZ st.A)(fr:Fr (fun b=>own b=1\/own b=2\/own b=3) w w')
 (hM:eQ w' c.ab (n1+1) (j8 (fi c.s.T c.l.fm st.A) v.2 (gA c.s.T c.l.fm (M v.2))))
 (f:aC w' 0 2 1 cT (MZ st.td+1) ((st.td++[v.2]).map (Value.int Q)))(hb:w'.heap[c.cp]?=Z (R #[aq c.ce,.map (Z c.ab),cT,.map (Z c.hb)] 252 (0,0)))
 (ht:∀k,Z k=Nh cT->own k=3\/I (G w)<=k):∃own',cZ c own' cT (n1+1) n2 hm (ej st v) w'/\fV own w own' w':=by
 obtain⟨i,j⟩:=nh hi;have hc:=tc st.A (M v.2) (by simp_all)
 have he:∀b,own b≠0->(if I (G w)<=b then(if Z b=Nh cT then 3 else 0) else own b)=own b:=fun b hb=>aI (by have:=(h.lt b hb).2;omega)
 have hk:∀b,own b=4\/10<=own b->_=_:=fun b hb=>fr.block b (by grind) aa;have hs:=h.sz;refine⟨fun b=>if I (G w)<=b then(if Z b=Nh cT then 3 else 0) else own b,?_,fr,fun b hb=>aI aa,fun b hb ho=>?_⟩
 ·rw[rZ hi];refine {
   ol:=fun k g=>(fr.block k aa (fun cc=>?_)).trans (h.ol k g),sz:=aU h.sz fr.size,cb:=hb,co:=(by grind [co]),am:=?_,ao:=(by grind [ao]),an:=?_,tr:=by grind,tw:=fun k e=>?_,tn:=?_
   hq:=h.hq.same (hk _ (aM h.ho)),ho:=(by grind [ho]),hn:=h.hn,hr:=fun x d=>⟨(h.hr x d).1,cM (h.hr x d).2 (by grind [hro])⟩,hro:=fun x d k e=>(by grind [hro]),lt:=fun b hb=>?_}
  ·have:=(h.lt k aa).1;omega
  ·grind [Ja]
  ·have:=h.an
   grind
  ·grind
  ·have:=h.tn
   grind
  ·split at hb
   ·rename_i hw;split at hb
    ·rename_i e;exact⟨aa,(cv f b e).2⟩
    omega
   grind [lt,Fr.size,aO]
 grind
end
theorem Jb (k:Int)(ad:Option bG)(n c:Nat)(w:az):(Instr.field 220 (bF #[ak k,H ad n c]) 1).run O w=v3 (H ad n c) w:=ah
theorem vi (w:az)(a b o:Obj):(((w.alloc a).alloc b).alloc o).heap[I (G w)+1+1]?=Z o:=by have h:=aP ((w.alloc a).alloc b) o;rwa [show I (G ((w.alloc a).alloc b))=I (G w)+1+1 by simp] at h
section
variable {ce:Nat}{cj b_:Int}{l:hP}{F:Nat->Prop}{s:cn}{w:az}
theorem Jd (h:dS ce cj b_ l s w)(v:Int×Int)(hv:v.1=3->0<=v.2/\cA s.T (M v.2))(b:MZ s.T<=10000)(hk:v.1=3->(X s.T (M v.2) t0).1=5):
 J O 208 #[aq ce,bF #[ak v.1,ak v.2]] w fun e w'=>e=E (a8 #[bF #[ak 0,ak 0],ak 2])/\C (I (G w)) w w':=by
 obtain⟨k,x⟩:=v;have b1:C (I (G w)) w (bj (bj w (R #[U Q k,U Q x] 97)) (R #[U Q 0,U Q 0] 97)):=(b9.alloc b8 _).alloc ac _;have P:=Bh (h.below b1) (k,x) hv b hk;go_enter func208,ntmps208;go_wp2_with fail;refine P.mono ?_;rintro e w1 ⟨rfl,hb⟩
 have hq:=(hb.block (I (G w)+1) ac).trans (gH w (R #[U Q k,U Q x] 97) (R #[U Q 0,U Q 0] 97))
 obtain⟨f,g,i,lw⟩:=du hq;have c:=hide hq;have d:=hide (b1.trans (hb.mono (by simp;omega)))
 go_wp2_with fail;obtain⟨r0,r1,_,_⟩:=du (hD (v1:=ak 0) (v2:=ak 0) c.o)
 exact a6 (v:=a8 #[bF #[ak 0,ak 0],ak 2]) (by simp[results,results208,go_sem,r0,r1]) rfl ⟨rfl,(d.o.setCell ac _).setCell ac _⟩
theorem Je (h:dS ce cj b_ l s w)(x:Int)(hv:0<=x/\cA s.T (M x))(d:MZ s.T<=10000)(hk:(X s.T (M x) t0).1≠5):
 J O 208 #[aq ce,bF #[ak 3,ak x]] w fun e w'=>e=E (a8 #[bF #[ak 1,ak (MZ (X s.T (M x) t0).2.1)],ak 0])/\C (I (G w)) w w':=by
 have b1:C (I (G w)) w (bj (bj w (R #[U Q 3,U Q x] 97)) (R #[U Q 0,U Q 0] 97)):=(b9.alloc b8 _).alloc ac _;have P:=vl (h.below b1) x hv d hk;dsimp only [eV] at P;generalize MZ (X s.T (M x) t0).2.1=n at*;go_enter func208,ntmps208;go_wp2_with fail;refine P.mono ?_;clear P;rintro e w1 ⟨rfl,hb⟩
 have hq:=(hb.block (I (G w)+1) ac).trans (gH w (R #[U Q 3,U Q x] 97) (R #[U Q 0,U Q 0] 97))
 have b:=hide (b1.trans (hb.mono (by simp;omega)))
 clear hb b1;go_wp2_with fail;refine(r6 n w1).mono ?_;rintro e f ⟨rfl,c⟩
 have hq:=(c.block _ (lt_of_some hq)).trans hq;obtain⟨g,i,j,lw⟩:=du hq;go_wp2_with fail;obtain⟨r0,r1,_,_⟩:=du (hD (v1:=ak 1) (v2:=ak n) (hide hq).o)
 exact a6 (by simp[results,results208,go_sem,r0,r1]) rfl ⟨rfl,((hide (b.o.trans (c.mono b.o.size))).o.setCell ac _).setCell ac _⟩
theorem Jf (x y:Int×Int)(w:az):
 J O 209 #[bF #[ak x.1,ak x.2],bF #[ak y.1,ak y.2]] w fun e w'=>e=E (bF #[ak 1,ak (if x=y then 1 else 0)])/\C (I (G w)) w w':=by
 obtain⟨b,g⟩:=x;obtain⟨d,y1⟩:=y;have b1:C (I (G w)) w (bj (bj (bj w (R #[U Q b,U Q g] 97)) (R #[U Q d,U Q y1] 97)) (R #[U Q 0,U Q 0] 97)):=((b9.alloc b8 _).alloc ac _).alloc (by simp;omega) _;by_cases h0:b=d/\g=y1
 ·obtain⟨h0,f⟩:=h0;subst h0 f;rw[aJ rfl];go_enter func209,ntmps209;go_wp2_with fail;refine(r6 _ _).mono ?_;rintro e w2 ⟨rfl,hb2⟩
  have hq:=(hb2.block (I (G w)+1+1) ac).trans (vi w _ _ _)
  obtain⟨e0,e1,f0,lw⟩:=du hq;have HN:=hide hq;have HB:=hide (b1.trans (hb2.mono b1.size))
  go_wp2_with fail;obtain⟨r0,r1,_,_⟩:=du (hD (v1:=ak 1) (v2:=ak 1) HN.o)
  exact a6 (v:=bF #[ak 1,ak 1]) (by simp[results,results209,go_sem,r0,r1]) rfl ⟨rfl,(HB.o.setCell (by simp;omega) _).setCell (by simp;omega) _⟩
 ·rw[aI (fun c=>h0 (by cases c;exact⟨rfl,rfl⟩))];by_cases f:b=d
  ·subst f;go_enter func209,ntmps209;exact Bd
  ·go_enter func209,ntmps209;exact Bd
theorem Jg (h:dS ce cj b_ l s w)(x:Int)(i:Nat)(y:Int×Int)(hv:0<=x/\cA s.T x.toNat)(v:MZ s.T<=10000)(hk:(s.T.getD x.toNat t0).1≠5)(hi:i<MZ (s.T.getD x.toNat t0).2.1)(ad:i<12):
 J O 133 #[aq ce,.agg #[ak 3,ak x],ak i,.agg #[ak y.1,ak y.2]] w fun e w'=>e=E (ak 0)/\dS ce cj b_ l {s with T:=ig s.T x.toNat i y} w'/\Fr (fun b=>l.own b≠0) w w':=by
 obtain⟨f,y1⟩:=y;have b1:C (I (G w)) w ((w.alloc (R #[.int Q 3,.int Q x] 97)).alloc (R #[.int Q f,.int Q y1] 97)):=(b9.alloc b8 _).alloc ac _;have P:=Bl (h.below b1) x i hv v hk hi;obtain⟨b,cp,B,g0,g1,F,lb,m,q⟩:=h.field hv.2 hi (f,y1)
 obtain⟨_,_,c2,_,_,_,_,_,N⟩:=h.cells;have hl:x<10000:=by have:=hv.2.1;omega
 have L:∀W,C (I (G w)) w W->(Instr.lookup 184 (.map (Z l.mb)) (ak x) K).run O W=.ok (gA s.T l.fm x.toNat) W:=fun W hb=>by
  have:=(h.below hb).g2.mp.look (t:=184) (e:=220) underlying184 (mU W) (x:=x) hv.1 aa;rw[jG hv] at this
  exact this
 have ag:=hv.1;dsimp only [gA] at L;rw[B] at L;have q:=hide q;have S:=hide m;have ab:=hide h.lt;have ai:b≠ce:=fun c=>by have:=h.bo;rw[<-c,m] at this;omega
 have m1:b≠I (G w):=aa;have al:b≠I (G w)+1:=aa;clear h hv v hk B m;generalize (s.T.getD x.toNat t0).2.1.getD i (0,0)=z at*;generalize MZ (s.T.getD x.toNat t0).2.1=n at*;generalize (s.T.getD x.toNat t0).1=kd at*;go_enter func133,ntmps133;go_wp2_with fail;refine P.mono ?_;clear P;rintro e w1 ⟨rfl,hb⟩
 have d:=hide (b1.trans (hb.mono (by simp;omega)))
 have g:=(hb.block (I (G w)) (by simp;omega)).trans ((aS _ _ _ ac).trans (aP w (R #[.int Q 3,.int Q x] 97)))
 have j:=(hb.block (I (G w)+1) ac).trans (gH w (R #[.int Q 3,.int Q x] 97) (R #[.int Q f,.int Q y1] 97))
 have b2:=d.o.alloc d.o.size (R #[.int Q z.1,.int Q z.2] 97)
 have g:=(aS w1 (R #[.int Q z.1,.int Q z.2] 97) _ (lt_of_some g)).trans g;have j:=(aS w1 (R #[.int Q z.1,.int Q z.2] 97) _ (lt_of_some j)).trans j;clear hb b1 d;go_wp2_with fail;generalize w1.alloc (R #[.int Q z.1,.int Q z.2] 97)=W at*;obtain⟨_,am,_,_⟩:=du g;obtain⟨q0,q1,_,_⟩:=du j;have an:=(b2.cell (p:=av ce 2) N).trans c2;have k0:=(b2.cell (p:=av b (i*2)) lb).trans g0;have k1:=(b2.cell (p:=av b (i*2+1)) lb).trans g1;have kf:∀o,bO W (av b o)=K:=fun o=>(b2.frozen (p:=av b o) lb).trans (F o)
 have ao:=L _ b2.drew;have ap:=Jb kd (au b) n cp;have n1:(0:Int)<=i:=aa;have ar:(i:Int)<n:=aa;have d:aA (C (I (G w)) w W):=b2;clear g j L g0 g1 F c2 b2
 go_region_held3 (fun w'=>V w' (av ce 2)=Z (.map (Z l.mb))/\V w' (av (I (G w)) 1)=Z (ak x)/\V w' (av (I (G w)+1) 0)=Z (ak f)/\V w' (av (I (G w)+1) 1)=Z (ak y1)) (go_keep) (fail)
 go_wp2_with fail;go_ret;have hs:=d.o.size;have fr:Fr (fun k=>k=b) W ((W.setCell ⟨b,i*2,Y⟩ (.int Q f)).setCell ⟨b,i*2+1,Y⟩ (.int Q y1)).drew:=(((Fr.refl (fun k=>k=b) W).set b _ _ rfl).set b _ _ rfl).drew;have u:=(Fr.of d.o).trans fr (fun _ c=>aM c)
 exact⟨rfl,q.o _ W (fun k hk hn=>u.block k (ab.o k hk) hn) u.size (d.o.block b lb) rfl,u.mono (fun k e=>by rw[e,S.o];omega)⟩
theorem Jh (v y:Int×Int)(i c:Int)(hc:c≠0)
 (P:∀w',C (I (G w)) w w'->J O 201 #[aq ce,bF #[ak v.1,ak v.2],ak i] w' fun e d=>e=E (a8 #[bF #[ak 0,ak 0],ak c])/\C (I (G w')) w' d):
 J O 133 #[aq ce,bF #[ak v.1,ak v.2],ak i,bF #[ak y.1,ak y.2]] w fun e w'=>e=E (ak c)/\C (I (G w)) w w':=by
 obtain⟨f,y1⟩:=y;obtain⟨k,x⟩:=v;have b1:C (I (G w)) w (bj (bj w (R #[U Q k,U Q x] 97)) (R #[U Q f,U Q y1] 97)):=(b9.alloc b8 _).alloc ac _;go_enter func133,ntmps133;go_wp2_with fail;refine(P _ b1).mono ?_;rintro e w1 ⟨rfl,hb⟩
 have b:=hide (b1.trans (hb.mono b1.size))
 go_wp2_with fail;go_ret;exact⟨rfl,b.o.alloc b.o.size _⟩
end
theorem Ji:(prog.info? 2).map (fun i=>(i.zero,i.size,i.bytes))=Z (Z (ak 0),1,8):=ah
section
variable {c:Cp}{own:Nat->Nat}{vt:bD}{n1 n2:Nat}{hm:Int->Option bG×Nat}{st:dE}{w:az}
theorem Bm {cp ab:Nat}{T:List cJ}{fm:Fm}{A:List Bool}(c1:V w (av cp 1)=Z (.map (Z ab)))(hM:eQ w ab n1 (fi T fm A))(x:Int)(h0:0<=x)(b:x<1152921504606846976):
 J O 247 #[aq cp,ak x] w fun e w'=>e=E (.bool (cW A x))/\C (I (G w)) w w':=by
 have L:=hM.look_ok underlying184 (mU w) h0 b;rw[vm h0] at L;have hv:∃k ad n c,(fi T fm A x).getD (.agg #[ak 0,.slice Y 0 0])=.agg #[ak k,.slice ad n c]:=by
  unfold fi;split
  ·exact⟨_,_,_,_,rfl⟩
  ·exact⟨_,_,_,_,rfl⟩
 obtain⟨k,ad,n,cc,ev⟩:=hv;rw[ev] at L;exact kH
theorem Bn {cp ab:Nat}{T:List cJ}{fm:Fm}{A:List Bool}(c1:V w (av cp 1)=Z (.map (Z ab)))(hM:eQ w ab n1 (fi T fm A))(v:Int×Int)(hv:v.1=3->0<=v.2/\v.2<1152921504606846976):
 J O 250 #[aq cp,bF #[ak v.1,ak v.2]] w fun e w'=>e=E (bK (!d_ A v))/\C (I (G w)) w w':=by
 obtain⟨k,x⟩:=v;by_cases c:k=3
 ·subst c;have b1:=aw w (R #[U Q 3,U Q x] 97)
  have P:=Bm ((b1.cell (p:=av cp 1) (aT w _ c1)).trans c1) (hM.same (b1.block ab hM.lt)) x (hv rfl).1 (hv rfl).2;have e:d_ A (3,x)=cW A x:=by unfold d_ cW;simp
  rw[e];generalize cW A x=b at*;go_enter func250,ntmps250;go_wp2_with fail;refine P.mono ?_;rintro e w1 ⟨rfl,hb⟩
  have d:=hide (b1.trans (hb.mono b1.size))
  go_wp2;go_ret;exact⟨rfl,d.o⟩
 ·have e:d_ A (k,x)=Nc:=by unfold d_;simp[c]
  rw[e];go_enter func250,ntmps250;exact kH
theorem Jj (h:cZ c own vt n1 n2 hm st w)(x:Int)(h0:0<=x)(b:x<1152921504606846976):
 J O 247 #[aq c.cp,ak x] w fun e w'=>e=E (bK (cW st.A x))/\C (I (G w)) w w':=Bm h.cells.2.1 h.am x h0 b
theorem vo (h:cZ c own vt n1 n2 hm st w)(v:Int×Int)(hv:v.1=3->0<=v.2/\v.2<1152921504606846976):
 J O 250 #[aq c.cp,bF #[ak v.1,ak v.2]] w fun e w'=>e=E (bK (!d_ st.A v))/\C (I (G w)) w w':=Bn h.cells.2.1 h.am v hv
structure j9 (own:Nat->Nat)(w:az)(ad:Option bG)(l:List (Int×Int)):Prop where
 lp:dA w ad l
 no:0<MZ l->∀z,ad=Z z->¬(own z.block=1\/own z.block=2\/own z.block=3)
theorem j9.tm {own d:Nat->Nat}{w w':az}{ad:Option bG}{l:List _}(h:j9 own w ad l)(t:fV own w d w'):j9 d w' ad l:=
 ⟨h.lp.keep t.fr.size (fun hp z e=>t.fr.block _ (by obtain⟨b,o,c,hb,_⟩:=h.lp hp;rw[e] at c;cases c;exact hb) (h.no hp z e)),fun hp z e=>by rw[t.old _ (by obtain⟨b,o,c,hb,_⟩:=h.lp hp;rw[e] at c;cases c;exact hb)];exact h.no hp z e⟩
theorem mW (hg:dS c.ce c.cj c.b_ c.l c.s c.w0)(am:MZ c.s.T<=10000)(ab:MZ st.A=MZ c.s.T)(h:cZ c own vt n1 n2 hm st w)(ad:Option bG)(cap:Nat)(l:List (Int×Int))(hl:j9 own w ad l)(hv:∀v∈l,v.1=3->0<=v.2/\cA c.s.T v.2.toNat)(cR:MZ l<=100000):
 J O 245 #[aq c.cp,.slice ad (MZ l) cap] w fun e w'=>∃f cT n,e=E (a8 #[])/\cZ c f cT n n2 hm (dy st l) w'/\fV own w f w':=by
 have a4:aA (dS c.ce c.cj c.b_ c.l c.s c.w0):=hg;have ch:aA (∀v∈l,v.1=3->0<=v.2/\cA c.s.T v.2.toNat):=hv;have ba:aA (cZ c own vt n1 n2 hm st w/\j9 own w ad l):=⟨h,hl⟩
 have ci:aA (MZ c.s.T<=10000/\MZ st.A=MZ c.s.T):=⟨am,ab⟩
 have cS:=h.cells.2.2.2.2.2;clear hg h hl hv am ab;go_enter func245,ntmps245;go_wp2_with fail
 go_loopw [8] (fun i wr=>∃(j:Nat)(f:Nat->Nat)(cT:bD)(n:Nat),j<=MZ l/\i=ak j/\cZ c f cT n n2 hm (dy st (l.take j)) wr/\fV own w f wr) (fun i _=>MZ l-(intOf i).toNat)
 case atStart=>exact⟨0,own,vt,n1,a5 _,rfl,ba.o.1,fV.of b9 (fun b hb=>(ba.o.1.lt b hb).2)⟩
 case round=>
  obtain⟨j,f,cT,n,an,rfl,g,t⟩:=hrel;by_cases bb:j<MZ l
  ·have bd:l.take (j+1)=l.take j++[l.getD j (0,0)]:=by rw[List.take_add_one,aL,aN bb];rfl
   have ag:=ch.o (l.getD j (0,0)) (getD_in bb)
   obtain⟨am,ab⟩:=ci.o;have aB:MZ (dy st (l.take j)).A=MZ c.s.T:=((jF st (l.take j)).2.2).trans ab;have be:aA (dy st (l.take (j+1))=ej (dy st (l.take j)) (l.getD j (0,0))):=by show _=_;rw[bd,A9]
   generalize dy st (l.take j)=S at g be aB;obtain⟨cU,o,aF,lb,bg⟩:=(ba.o.2.tm t).lp aa;have hc:=bg j bb;obtain⟨z0,cj⟩:=hc;generalize l.getD j (0,0)=v at*;obtain⟨k,x⟩:=v;dsimp only at z0 cj ag;have b1:=aw wr (R #[.int Q k,.int Q x] 97)
   have P:=vo (g.below b1) (k,x) (fun ao=>⟨(ag ao).1,by have:=(ag ao).2.1;omega⟩)
   have cV:aA (I (G wr)+1=I (G wr)+1):=rfl;have cW:(j:Int)<MZ l:=aa;have cX:IntKind.i64.wrap ((j:Int)+1)=(j:Int)+1:=by rw[bA];omega
   cases hi:d_ S.A (k,x)
   ·rw[hi] at P;obtain⟨ao,ck⟩:=nh hi;dsimp only at ao ck;subst ao;obtain⟨aR,aV⟩:=ag rfl;have cY:x<10000:=by have:=aV.1;omega
    obtain⟨s,B,cl⟩:=eZ g.tr;subst cl;have c0:MZ S.td<=10000:=by have:=g.tn;omega
    have br:n<100000:=by have:=g.an;omega
    have np:∀b,f b=3->b≠c.cp:=fun b hb e=>by rw[e,g.co] at hb;omega
    have bs:aA (∀w1,C (I (G wr)) wr w1->w1.heap[I (G wr)]?=Z (R #[ak 3,ak x] 97 (0,0))->∃kd bi bl fc d,(V w1 (av c.cp 0)=Z (aq c.ce)/\V w1 (av c.cp 1)=Z (.map (Z c.ab))/\V w1 (av c.ce 2)=Z (.map (Z c.l.mb)))/\
     (Instr.lookup 184 (.map (Z c.l.mb)) (ak x) K).run O w1.drew=.ok (.agg #[ak kd,.slice bi bl fc]) w1.drew/\(Instr.mapUpdate 184 (.map (Z c.ab)) (ak x) (.agg #[ak kd,.slice bi bl fc])).run O w1.drew=.ok () d/\
     (V d (av c.cp 0)=Z (aq c.ce)/\V d (av c.cp 1)=Z (.map (Z c.ab))/\V d (av c.ce 2)=Z (.map (Z c.l.mb))/\V d (av (I (G wr)) 1)=Z (ak x)/\V d (av c.cp 2)=Z (.slice s (MZ S.td) B)/\(∀o,bO d (av c.cp o)=K)/\c.cp<I (G d))/\
     aA (aC d 0 2 1 (.slice s (MZ S.td) B) (MZ S.td) (S.td.map (Value.int Q))/\Z c.cp≠Nh (Value.slice s (MZ S.td) B)/\∀m b4 q,(d.alloc (R #[.int Q x] 2)).drew.grownBy m (Value.slice s (MZ S.td) B).ownBlock->aC m 0 2 1 (.slice (au b4) (MZ S.td+1) q) (MZ S.td+1) ((S.td++[x]).map (Value.int Q))->(Z b4=Nh (Value.slice s (MZ S.td) B)\/I (G d)<=b4)->
      ∃ai,cZ c ai (.slice (au b4) (MZ S.td+1) q) (n+1) n2 hm (dy st (l.take (j+1))) (m.setCell ⟨c.cp,2,Y⟩ (.slice (Z ⟨b4,0,Y⟩) (MZ S.td+1) q))/\fV own w ai (m.setCell ⟨c.cp,2,Y⟩ (.slice (Z ⟨b4,0,Y⟩) (MZ S.td+1) q)))):=fun w1 hb al=>by
     have g1:=g.below hb;have gv:=g1.gv a4.o;have gd:=g.below hb.drew;have L:=(gd.gv a4.o).g2.mp.look (t:=184) (e:=220) underlying184 (mU _) (x:=x) aR aa;rw[jG ⟨aR,aV⟩] at L;obtain⟨d,cm,bn,W⟩:=gd.am.put (t:=184) (e:=220) underlying184 br aR aa (gA c.s.T c.l.fm x.toNat)
     obtain⟨q0,q1,cn,_,co,a0⟩:=g1.cells;obtain⟨_,_,bt,_,_,_,_,_,pl⟩:=gv.cells;have a1:∀b,b<I (G w1)->b≠c.ab->d.heap[b]?=w1.heap[b]?:=fun b hb hn=>W.block b hb (fun e=>hn (qo e))
     have bx:c.cp≠c.ab:=fun e=>by have N:=g1.co;rw[e,g1.ao] at N;omega
     have cp:c.ce≠c.ab:=fun e=>by have N:=a4.o.cells.2.2.2.2.2.2.2.2;have cq:=(g1.lt c.ab (by rw[g1.ao];decide)).1;omega
     have cr:I (G wr)≠c.ab:=fun e=>by have cq:=(g.lt c.ab (by rw[g.ao];decide)).2;omega
     have ap:=a1 c.cp a0 bx;refine⟨_,_,_,_,d,⟨q0,q1,bt⟩,L,cm,⟨(aQ (a:=⟨c.cp,0,Y⟩) ap).trans q0,(aQ (a:=⟨c.cp,1,Y⟩) ap).trans q1,(aQ (a:=⟨c.ce,2,Y⟩) (a1 c.ce pl cp)).trans bt,(aQ (a:=⟨I (G wr),1,Y⟩) (a1 (I (G wr)) (lt_of_some al) cr)).trans (by simp[World.cell?,al]),(aQ (a:=⟨c.cp,2,Y⟩) ap).trans cn,fun o=>(World.frozen?_of_block (a:=⟨c.cp,o,Y⟩) ap).trans (co o),aO a0 W.size⟩,?_⟩
     have cs:aC d 0 2 1 (.slice s (MZ S.td) B) (MZ S.td) (S.td.map (Value.int Q)):=cM g1.tr (fun k e=>a1 k (cv g1.tr k e).2 (fun cc=>by have N:=g1.tw k e;rw[cc,g1.ao] at N;omega))
     refine⟨cs,fun e=>np c.cp (g1.tw c.cp e) rfl,fun m b4 q bo ct b0=>?_⟩
     have cu:Fr (fun b=>f b=1\/f b=2\/f b=3) w1 d:=((Fr.refl _ w1).drew).grown W (fun k e=>aM (by cases e;exact aK (aM g1.ao)))
     have cw:Fr (fun b=>f b=1\/f b=2\/f b=3) d m:=(((Fr.refl _ d).alloc _).drew).grown bo (fun k e=>aM (aK (aK (g1.tw k e.symm))))
     have cx:=(cu.trans cw (fun _ cy=>aM cy)).set c.cp 2 (.slice (au b4) (MZ S.td+1) q) (aM g1.co)
     have cz:b4≠c.cp:=by
      rcases b0 with e|e
      ·exact np b4 (g1.tw b4 e)
      ·have:=W.size;have:I (G w1)<=I (G d):=this
       omega
     have b2:∀b,b≠c.cp->(m.setCell ⟨c.cp,2,Y⟩ (.slice (Z ⟨b4,0,Y⟩) (MZ S.td+1) q)).heap[b]?=m.heap[b]?:=fun b hn=>aX _ _ _ _ hn;have cB:(m.setCell ⟨c.cp,2,Y⟩ (.slice (Z ⟨b4,0,Y⟩) (MZ S.td+1) q)).heap[c.ab]?=d.heap[c.ab]?:=(b2 c.ab bx.symm).trans ((bo.block c.ab (by have:=bn.lt;simp[World.drew];omega) (fun e=>by have N:=g1.tw c.ab e;rw[g1.ao] at N;omega)).trans (aS _ _ _ bn.lt))
     have cC:m.heap[c.cp]?=w1.heap[c.cp]?:=(bo.block c.cp (by have:=aO a0 W.size;simp[World.drew];omega) (fun e=>np c.cp (g1.tw c.cp e) rfl)).trans ((aS _ _ _ (aO a0 W.size)).trans ap)
     obtain⟨ai,c1,c2⟩:=g1.gB (cT:=.slice (au b4) (MZ S.td+1) q) hi aR (by rw[aB];exact aV.1) cx (bn.same cB) (cM ct (fun k e=>by cases e;exact b2 _ cz)) (by
      have N:=cC.trans g1.cb;simp only [World.setCell,Array.getElem?_modify,if_true,N,Option.map_some];rfl) (fun k e=>by
      cases e;exact b0.imp (fun e=>g1.tw _ e) (fun e=>aU (show I (G w1)<=I (G d) from W.size) e))
     rw[be.o];exact⟨ai,c1,(t.trans (fV.of hb (fun b hb=>(g.lt b hb).2))).trans c2⟩
    rw[aF];clear g t bg ag bd hi aB am ab aF np br aV;go_wp2_with fail;refine P.mono ?_;clear P;rintro e w1 ⟨rfl,hb⟩
    have al:=(hb.block (I (G wr)) ac).trans (aP wr (R #[.int Q 3,.int Q x] 97))
    obtain⟨kd,bi,bl,fc,d,⟨cD,y1,cE⟩,cF,cG,⟨u0,cH,cI,c3,b3,b5,bp⟩,a2⟩:=bs.o w1 (b1.trans (hb.mono b1.size)) al;obtain⟨_,cJ,_,_⟩:=du al;clear hb b1 al bs;go_wp2_with fail
    go_region_held3 (fun w'=>V w' (av c.cp 0)=Z (aq c.ce)/\V w' (av c.cp 1)=Z (.map (Z c.ab))/\V w' (av c.ce 2)=Z (.map (Z c.l.mb))/\V w' (av (I (G wr)) 1)=Z (ak x)) (go_keep) (fail)
    clear cF cG cD y1 cE cJ u0 cH cI;obtain⟨cK,cL,cN,cO,cP⟩:=info_parts Ji;have ar:=(aw d (R #[.int Q x] 2)).drew;have b6:aA (aC (d.alloc (R #[.int Q x] 2)).drew 0 2 1 (.slice s (MZ S.td) B) (MZ S.td) (S.td.map (Value.int Q))):=cM (fC a2.o.1 _) (fun _ _=>rfl)
    have ca:Z c.cp≠Nh (Value.slice s (MZ S.td) B):=a2.o.2.1;have cQ:=b5 2;clear b5;go_wp2_with fail
    go_region_law (refine step_append_lies _ rfl (.tmp 35) (.tmp 38) 53 rfl 0 2 cK (ak 0) 1 8 underlying53 cL cN cO cP rfl ae (.slice s (MZ S.td) B) (MZ S.td) (S.td.map (Value.int Q)) (by simp[Act.eval]) b6.o ⟨I (G d),0,Y⟩ 1 1 [ak x] (by simp[Act.eval]) rfl ?_ ?_ ae (by unfold maxLen;omega) aa ac _ rfl ?_;(intro j u an;match j,an with|0,an=>(simp at an;subst an;simp[Addr.add]));(intro u cb;simp at cb;subst cb;rfl);intro b4 q m cd a3 ce c4;have c5:=a3.cell (a:=⟨c.cp,2,Y⟩) (v:=.slice s (MZ S.td) B) ((ar.cell (p:=av c.cp 2) bp).trans b3) ca;have c6:bO m (av c.cp 2)=K:=(World.frozen?_of_block (a:=⟨c.cp,2,Y⟩) (a3.block _ (aO bp ar.size) ca)).trans ((ar.frozen (p:=av c.cp 2) bp).trans cQ))
    all_goals
     obtain⟨ai,cf,cg⟩:=a2.o.2.2 m b4 q a3 (by simpa using cd) (ce.imp Eq.symm (fun e=>by rw[e];exact ar.size))
     have F:aA (_/\_):=⟨cf,cg⟩
     clear cd a3 ce a2 b6 cf cg ar b3;go_wp2_with fail;go_roundw
     case rel=>exact⟨j+1,ai,_,n+1,aa,aj,F.o.1,F.o.2⟩
     case measure=>simp[intOf];omega
   ·rw[hi] at P;have F:aA (∀w1,C (I (G wr)) wr w1->cZ c f cT n n2 hm (dy st (l.take (j+1))) w1/\fV own w f w1):=fun w1 hb=>by rw[be.o,vg hi];exact⟨g.below hb,t.trans (fV.of hb (fun b hb=>(g.lt b hb).2))⟩
    rw[aF];clear g t bg ag bd hi aB am ab aF;go_wp2_with fail;refine P.mono ?_;clear P;rintro e w1 ⟨rfl,hb⟩
    have hb:=b1.trans (hb.mono b1.size)
    have F:aA (_/\_):=F.o w1 hb;clear hb b1;go_wp2_with fail;go_roundw
    case rel=>exact⟨j+1,f,cT,n,aa,aj,F.o.1,F.o.2⟩
    case measure=>simp[intOf];omega
  ·have e:l.take j=l:=List.take_of_length_le aa;rw[e] at g;have F:aA (cZ c f cT n n2 hm (dy st l) wr/\fV own w f wr):=⟨g,t⟩
   have c7:(MZ l:Int)<=j:=aa;clear g t e;go_wp2_with fail;go_end0;exact⟨f,cT,n,rfl,F.o.1,F.o.2⟩
end
def jk (A:List Bool)(t:cJ):List (Int×Int):=if t.1=4/\d_ A (X t.2.1 0 (0,0))=K then[(2,0),(2,0)] else if t.1=3/\d_ A (X t.2.1 0 (0,0))=K then[(2,0),X t.2.1 1 (0,0)] else t.2.1
def gC (A:List Bool)(T:List cJ)(left:Int->Bool)(i:Nat):List (Int×Int):=if left i=Nc then(X T i t0).2.1 else jk A (X T i t0)
structure ip (T:List cJ)(fm:Fm)(A:List Bool)(lab:Nat->Nat)(cp ab n1:Nat)(fs:Nat->List (Int×Int))(w:az):Prop where
 c1:V w (av cp 1)=Z (.map (Z ab))
 hM:eQ w ab n1 (fi T fm A)
 row:∀i,cx A i->aC w 0 97 2 (eV T fm i) (MZ (X T i t0).2.1) (ev (fs i))
 lb:∀i,cx A i->∀k,Z k=Nh (eV T fm i)->lab k=10+i
 no:lab cp=0/\lab ab=0
structure qi (T:List cJ)(A:List Bool):Prop where
 l2:∀i,cx A i->(X T i t0).1=3\/(X T i t0).1=4->MZ (X T i t0).2.1=2
 v0:∀i,cx A i->(X (X T i t0).2.1 0 (0,0)).1=3->0<=(X (X T i t0).2.1 0 (0,0)).2/\(X (X T i t0).2.1 0 (0,0)).2<10000
section
variable {T:List cJ}{fm:Fm}{A:List Bool}{lab:Nat->Nat}{cp ab n1:Nat}{fs:Nat->List (Int×Int)}{w w':az}
theorem ip.keep (h:ip T fm A lab cp ab n1 fs w)(hk:∀b,b=cp\/b=ab\/10<=lab b->w'.heap[b]?=w.heap[b]?):ip T fm A lab cp ab n1 fs w':=
 ⟨(aQ (hk cp (aM rfl))).trans h.c1,h.hM.same (hk ab (aK (aM rfl))),fun i hi=>cM (h.row i hi) (fun k e=>hk k (aK (aK (by rw[h.lb i hi k e];omega)))),h.lb,h.no⟩
theorem ip.set (h:ip T fm A lab cp ab n1 fs w){i b cap:Nat}(hi:cx A i)(e:eV T fm i=H (au b) (MZ (X T i t0).2.1) cap){d:Nat->List _}(hg:∀j,j≠i->d j=fs j)
 (hr:aC w' 0 97 2 (eV T fm i) (MZ (X T i t0).2.1) (ev (d i)))(fr:Fr (fun k=>k=b) w w'):ip T fm A lab cp ab n1 d w':=by
 have lb:=h.lb i hi b (by rw[e];rfl)
 have h0:=h.no;refine⟨(aQ (fr.block cp (aT w _ h.c1) (fun c=>by rw[c] at h0;omega))).trans h.c1,h.hM.same (fr.block ab h.hM.lt (fun c=>by rw[c] at h0;omega)),fun j f=>?_,h.lb,h.no⟩
 by_cases g:j=i
 ·subst g;exact hr
 ·rw[hg j g];exact cM (h.row j f) (fun k l=>fr.block k (cv (h.row j f) k l).2 (fun c=>by have m:=h.lb j f k l;rw[c,lb] at m;omega))
theorem ip.put (h:ip T fm A lab cp ab n1 fs w){i b cap:Nat}(hi:cx A i)(e:eV T fm i=H (au b) (MZ (X T i t0).2.1) cap)(j:Nat)(y:Int×Int):
 ip T fm A lab cp ab n1 (fun k=>if k=i then(fs i).set j y else fs k) (ay (ay w ⟨b,j*2,Y⟩ (U Q y.1)) ⟨b,j*2+1,Y⟩ (U Q y.2))/\Fr (fun k=>k=b) w (ay (ay w ⟨b,j*2,Y⟩ (U Q y.1)) ⟨b,j*2+1,Y⟩ (U Q y.2)):=by
 have fr:Fr (fun k=>k=b) w (ay (ay w ⟨b,j*2,Y⟩ (U Q y.1)) ⟨b,j*2+1,Y⟩ (U Q y.2)):=((Fr.refl (fun k=>k=b) w).set b _ _ rfl).set b _ _ rfl;refine⟨h.set hi e (fun f d=>aI d) ?_ fr,fr⟩
 have c:=h.row i hi;rw[aJ rfl,s9,e];rw[e] at c;exact nn (nn c (j*2) (ak y.1)) _ _
theorem ip.congr {b:Nat->List _}(h:ip T fm A lab cp ab n1 fs w)(e:∀j,b j=fs j):ip T fm A lab cp ab n1 b w:=by rwa [show b=fs from funext e]
theorem Jm (left:Int->Bool)(i:Nat):(∀j,j≠i->gC A T (fun y=>left y&&!(y==(i:Int))) j=gC A T left j)/\gC A T (fun y=>left y&&!(y==(i:Int))) i=jk A (X T i t0):=by
 refine⟨fun j b=>?_,?_⟩
 ·unfold gC;have:((j:Int)==(i:Int))=K:=by simp;omega
  simp[this]
 ·unfold gC;rw[aI ac]
theorem Jn (h:ip T fm A lab cp ab n1 (fun i=>(T.getD i t0).2.1) w)(ht:qi T A)(hl:∀b,lab b≠0->b<I (G w))(b0:∀i,cx A i->i<10000):
 J O 236 #[aq cp] w fun e w'=>e=E (a8 #[])/\ip T fm A lab cp ab n1 (fun i=>jk A (T.getD i t0)) w'/\Fr (fun b=>10<=lab b) w w':=by
 obtain⟨w1,cD,ai,aF,gr,sz⟩:=h.hM.range (t:=184) (e:=220) underlying184;have ci:=b9.grown gr b8 (fun j cE=>by cases cE)
 have c1:=h.c1;have cj:=aT w _ h.c1;have cF:=g_ ht hl b0;have ck:aA (_/\C (I (G w)) w w1/\ip T fm A lab cp ab n1 (gC A T (fun x=>(fi T fm A x).isSome)) w1):=⟨aF,ci,by
  have a3:=h.keep (w':=w1) (fun b hb=>ci.block b (by
   rcases hb with d|d|d
   ·rw[d];exact cj
   ·rw[d];exact h.hM.lt
   ·exact hl b aa))
  refine⟨a3.c1,a3.hM,fun i hi=>?_,a3.lb,a3.no⟩
  unfold gC;rw[aJ (by dsimp only;rw[vm aa,cW,Int.toNat_natCast];exact hi)];exact a3.row i hi⟩
 go_enter func236,ntmps236;go_wp2_with fail
 go_loopw [3] (fun _ wr=>∃(left:Int->Bool)(k:Nat),aA (gS wr ab (I (G w)) n1 (fi T fm A) left k/\ip T fm A lab cp ab n1 (gC A T left) wr/\Fr (fun b=>10<=lab b) w wr)) (fun _ wr=>wr.rangeLeft ab (I (G w)))
 case atStart=>
  obtain⟨r,b,g⟩:=ck.o;exact⟨_,cD,r,g,Fr.of b⟩
 case round=>
  clear ai c1;obtain⟨left,k,b1⟩:=hrel;obtain⟨aF,g,fr⟩:=b1.o;rcases aF.next 0 with⟨h0,hl,ai⟩|⟨x,v,l,ag,cl,ap,ai,be,cm,cn,cG,a4⟩
  ·have co:gC A T left=fun i=>jk A (T.getD i t0):=by
    funext i
    unfold gC;rw[hl,aI ae]
   rw[co] at g;have ar:aA (_/\_):=⟨g,fr⟩
   clear aF g fr hl b1 co;go_wp2_with fail;go_end0;exact⟨rfl,ar.o.1,ar.o.2⟩
  ·have bg:0<=x/\A.getD (M x) K=Nc:=by
    unfold fi at ap;split at ap
    ·assumption
    ·cases ap
   obtain⟨i,rfl⟩:=Int.eq_ofNat_of_zero_le bg.1;have aR:cx A i:=by simpa[cx] using bg.2
   have hv:v=gA T fm i:=by unfold fi at ap;rw[aJ bg] at ap;exact(qo ap).symm
   obtain⟨b2,bi,b0⟩:=cF.o;obtain⟨b3,b4⟩:=Jm (A:=A) (T:=T) left i;have bl:gC A T left i=(T.getD i t0).2.1:=by unfold gC;rw[aJ cl]
   have bn:Fr (fun b=>b=I (G w)) wr l:=(Fr.refl _ wr).grown cn (fun j e=>aM (by cases e;rfl))
   have g2:ip T fm A lab cp ab n1 (gC A T left) l:=g.keep (fun b hb=>bn.block b (by
    rcases hb with d|d|d
    ·rw[d];exact aT wr _ g.c1
    ·rw[d];exact g.hM.lt
    ·exact aO (bi b aa) fr.size) (by
    rcases hb with d|d|d
    ·rw[d];exact Nat.ne_of_lt cj
    ·rw[d];exact Nat.ne_of_lt h.hM.lt
    ·have:=bi b aa;omega))
   have ba:aA (∀c,C (I (G l)) l c->_/\_/\Fr (fun b=>10<=lab b) w c):=fun c hb=>⟨be.same (hb.block _ be.nZ.lt) (hb.block _ be.lt),g2.keep (fun b cH=>hb.block b (by
    rcases cH with d|d|d
    ·rw[d];exact aT l _ g2.c1
    ·rw[d];exact g2.hM.lt
    ·have:=bi b aa;exact aO this (aU fr.size bn.size))),(fr.trans bn (fun b e=>aK (by rw[e];exact aG _))).trans (Fr.of (X:=fun b=>10<=lab b) hb) (fun _ d=>aM d)⟩
   have al:aA (_/\ag<k):=⟨aF.left_eq,cm⟩
   have bo:aA (jk A (T.getD i t0)=(T.getD i t0).2.1->gC A T (fun y=>left y&&!(y==(i:Int)))=gC A T left):=fun e=>by
    funext j
    by_cases s:j=i
    ·subst s;rw[b4,e,bl]
    ·exact b3 j s
   have v0:=b2.v0 i aR;have b5:=b2.l2 i aR;have hrow:=g2.row i aR;rw[bl] at hrow;have W:aA (_/\_/\_/\_):=⟨aR,b3,b4,bl⟩
   have b6:=g2.lb i aR;have cq:=g2.no;have aV:aA (_):=g2;dsimp only [gA] at hv;subst hv;clear aF g fr cl ap be cm cn cG bg aR b2 b0 b3 b4 bl bn g2 b1 ck;by_cases am:(T.getD i t0).1=3\/(T.getD i t0).1=4
   ·have l2:=b5 am;obtain⟨b,cap,an⟩:=eW hrow aa;have a0:=lt_of_some (fF hrow b (by rw[an];rfl)).choose_spec;obtain⟨cR,cr⟩:=fF hrow b (by rw[an];rfl)
    have cs:∀o,bO l (av b o)=K:=fun o=>by simp[World.frozen?,cr]
    obtain⟨cS,o',ct,_,ca⟩:=it hrow aa;have cu:_=_:=(Value.slice.inj an).1;rw[cu] at ct;cases ct;obtain⟨z0,cb⟩:=ca 0 aa;obtain⟨cc,y1⟩:=ca 1 aa;rw[Nat.zero_mul,Nat.add_zero] at z0 cb;rw[b7,Nat.one_mul] at cc y1;rw[l2] at an;have cv:aA (eV T fm i=H (au b) (MZ (T.getD i t0).2.1) cap):=by show _=_;rw[l2];exact an
    have cd:10<=lab b:=by rw[b6 b (by rw[an];rfl)];omega
    have oV:_:=bi b aa;have cT:b≠I (G l):=aa;have cU:I (G l)≠b:=aa;have cV:aA (_/\_):=⟨cd,a0⟩
    have cw:aA ((T.getD i t0).2.1=[(T.getD i t0).2.1.getD 0 (0,0),(T.getD i t0).2.1.getD 1 (0,0)]):=by
     show _=_
     match hq:(T.getD i t0).2.1,l2 with
     |[p,q],_=>rfl
    have cy:aA (d_ A ((T.getD i t0).2.1.getD 0 (0,0))=Nc->jk A (T.getD i t0)=(T.getD i t0).2.1):=fun e=>by unfold jk;rw[aI (fun d=>by rw[e] at d;cases d.2),aI (fun d=>by rw[e] at d;cases d.2)]
    have B:aA ((T.getD i t0).1=3->d_ A ((T.getD i t0).2.1.getD 0 (0,0))=K->jk A (T.getD i t0)=(T.getD i t0).2.1.set 0 (2,0)):=fun F e=>by
     unfold jk;rw[aI (fun d=>by omega),aJ ⟨F,e⟩]
     conv=>rhs;rw[cw.o]
     rfl
    have cz:aA ((T.getD i t0).1=4->d_ A ((T.getD i t0).2.1.getD 0 (0,0))=K->jk A (T.getD i t0)=((T.getD i t0).2.1.set 0 (2,0)).set 1 (2,0)):=fun ce e=>by
     unfold jk;rw[aJ ⟨ce,e⟩]
     conv=>rhs;rw[cw.o]
     rfl
    have bp:aA (∀c,C (I (G l)) l c->gS (ay (ay c ⟨b,0*2,Y⟩ (U Q 2)) ⟨b,0*2+1,Y⟩ (U Q 0)) ab (I (G w)) n1 (fi T fm A) (fun y=>left y&&!(y==(i:Int))) ag/\ip T fm A lab cp ab n1 (fun k=>if k=i then(gC A T left i).set 0 (2,0) else gC A T left k) (ay (ay c ⟨b,0*2,Y⟩ (U Q 2)) ⟨b,0*2+1,Y⟩ (U Q 0))/\Fr (fun b=>10<=lab b) w (ay (ay c ⟨b,0*2,Y⟩ (U Q 2)) ⟨b,0*2+1,Y⟩ (U Q 0))/\Fr (fun k=>k=b) c (ay (ay c ⟨b,0*2,Y⟩ (U Q 2)) ⟨b,0*2+1,Y⟩ (U Q 0))):=fun c hb=>by
     obtain⟨r,m,f⟩:=ba.o c hb;obtain⟨cf,fb⟩:=m.put W.o.1 cv.o 0 (2,0)
     exact⟨r.same (fb.block _ r.nZ.lt (fun d=>by have h0:=cq.2;rw[d] at h0;omega)) (fb.block _ r.lt (fun d=>by omega)),cf,f.trans fb (fun k e=>aM (by rw[e];exact cd)),fb⟩
    have cg:aA (∀c,C (I (G l)) l c->∀bb,bb=ay (ay (ay (ay c ⟨b,0*2,Y⟩ (U Q 2)) ⟨b,0*2+1,Y⟩ (U Q 0)) ⟨b,1*2,Y⟩ (U Q 2)) ⟨b,1*2+1,Y⟩ (U Q 0)->gS bb ab (I (G w)) n1 (fi T fm A) (fun y=>left y&&!(y==(i:Int))) ag/\ip T fm A lab cp ab n1 (fun k=>if k=i then((gC A T left i).set 0 (2,0)).set 1 (2,0) else gC A T left k) bb/\Fr (fun b=>10<=lab b) w bb):=fun c hb bb cJ=>by
     obtain⟨r,m,f,_⟩:=bp.o c hb;obtain⟨cf,fb⟩:=m.put W.o.1 cv.o 1 (2,0)
     rw[cJ];refine⟨r.same (fb.block _ r.nZ.lt (fun d=>by have h0:=cq.2;rw[d] at h0;omega)) (fb.block _ r.lt (fun d=>by omega)),cf.congr (fun j=>?_),f.trans fb (fun k e=>aM (by rw[e];exact cd))⟩
     by_cases s:j=i
     ·rw[aJ s,aJ s,aJ rfl]
     ·rw[aI s,aI s,aI s]
    have bd:=aw l (R #[U Q (T.getD i t0).1,H (Z ⟨b,0,Y⟩) 2 cap] 220)
    have cA:=aP l (R #[U Q (T.getD i t0).1,H (Z ⟨b,0,Y⟩) 2 cap] 220)
    have P:=Bn (cp:=cp) ((bd.cell (p:=av cp 1) (aT l _ aV.o.c1)).trans aV.o.c1) (aV.o.hM.same (bd.block ab aV.o.hM.lt)) ((T.getD i t0).2.1.getD 0 (0,0)) (fun cB=>⟨(v0 cB).1,by have:=(v0 cB).2;omega⟩)
    have ch:∀c,C (I (G l)) l c->_/\_/\_/\_/\∀o,bO c (av b o)=K:=fun c hb=>⟨(hb.cell (p:=av b 0) a0).trans z0,(hb.cell (p:=av b 1) a0).trans cb,(hb.cell (p:=av b 2) a0).trans cc,(hb.cell (p:=av b (2+1)) a0).trans y1,fun o=>(hb.frozen (p:=av b o) a0).trans (cs o)⟩
    have br:aA (_):=ch;obtain⟨a1,a2,_,_,_⟩:=ch _ bd;have ev:(Value.agg #[ak (T.getD i t0).1,eV T fm i])=bF #[ak (T.getD i t0).1,H (au b) 2 cap]:=by rw[an]
    rw[ev] at ai a4;have S:aA (_):=bd;have ao:aA (_=_):=cA;clear hrow b6 b5 v0 cr cs ca z0 cb cc y1 cu an ch bd cA aV ev l2;generalize (T.getD i t0).2.1.getD 0 (0,0)=u at*;generalize (T.getD i t0).2.1.getD 1 (0,0)=t at*;obtain⟨u0,cK⟩:=u;dsimp only at a1 a2 P;cases hin:d_ A (u0,cK)
    ·rw[hin] at P;have bs:aA ((T.getD i t0).1=3->∀j,gC A T (fun y=>left y&&!(y==(i:Int))) j=(fun k=>if k=i then(gC A T left i).set 0 (2,0) else gC A T left k) j):=fun F j=>by
      dsimp only;by_cases s:j=i
      ·subst s;rw[aJ rfl,W.o.2.2.1,B.o F hin,W.o.2.2.2]
      ·rw[aI s];exact W.o.2.1 j s
     have bt:aA ((T.getD i t0).1=4->∀j,gC A T (fun y=>left y&&!(y==(i:Int))) j=(fun k=>if k=i then((gC A T left i).set 0 (2,0)).set 1 (2,0) else gC A T left k) j):=fun ce j=>by
      dsimp only;by_cases s:j=i
      ·subst s;rw[aJ rfl,W.o.2.2.1,cz.o ce hin,W.o.2.2.2]
      ·rw[aI s];exact W.o.2.1 j s
     clear ba bo W cy B cz hin;rcases am with F|F
     ·have bs:aA (_):=bs.o F;rw[F] at P ai a4 a1 a2 S ao;clear bt;go_wp2_with fail;refine P.mono ?_;clear P;rintro e c ⟨rfl,B⟩
      have aB:=S.o.trans (B.mono S.o.size)
      obtain⟨j0,cL,j2,cI,cM⟩:=br.o c aB;obtain⟨cN,cO,_,cP⟩:=du ((B.block _ (lt_of_some ao.o)).trans ao.o)
      have N:aA (_):=bp.o c aB;clear B aB S ao bp cg br a1 a2;go_wp2_with fail;go_roundw
      case rel=>exact⟨_,ag,N.o.1,N.o.2.1.congr bs.o,N.o.2.2.1⟩
      rw[N.o.1.left_eq,al.o.1];exact al.o.2
     ·have bt:aA (_):=bt.o F;rw[F] at P ai a4 a1 a2 S ao;clear bs;go_wp2_with fail;refine P.mono ?_;clear P;rintro e c ⟨rfl,B⟩
      have aB:=S.o.trans (B.mono S.o.size)
      obtain⟨j0,cL,j2,cI,cM⟩:=br.o c aB;obtain⟨cN,cO,_,cP⟩:=du ((B.block _ (lt_of_some ao.o)).trans ao.o)
      have N:aA (_):=cg.o c aB;clear B aB S ao bp cg br a1 a2;go_wp2_with fail;go_roundw
      case rel=>exact⟨_,ag,(N.o _ rfl).1,(N.o _ rfl).2.1.congr bt.o,(N.o _ rfl).2.2⟩
      rw[(N.o _ rfl).1.left_eq,al.o.1];exact al.o.2
    ·rw[hin] at P;have bx:=bo.o (cy.o hin)
     have ar:aA (∀c,C (I (G l)) l c->gS c ab (I (G w)) n1 (fi T fm A) (fun y=>left y&&!(y==(i:Int))) ag/\ip T fm A lab cp ab n1 (gC A T (fun y=>left y&&!(y==(i:Int)))) c/\Fr (fun b=>10<=lab b) w c):=by show∀c,_;rw[bx];exact ba.o
     rcases am with F|F
     all_goals
      rw[F] at P ai a4 a1 a2 S;go_wp2_with fail;refine P.mono ?_;rintro e c ⟨rfl,B⟩
      have N:=hide (ar.o c (S.o.trans (B.mono S.o.size)))
      go_wp2_with fail;go_roundw;exact⟨_,ag,N⟩
      case measure=>rw[N.o.1.left_eq,al.o.1];exact al.o.2
   ·have cC:jk A (T.getD i t0)=(T.getD i t0).2.1:=by unfold jk;rw[aI (fun d=>am (aK d.1)),aI (fun d=>am (aM d.1))]
    have bx:=bo.o cC;have ar:aA (∀c,C (I (G l)) l c->gS c ab (I (G w)) n1 (fi T fm A) (fun y=>left y&&!(y==(i:Int))) ag/\ip T fm A lab cp ab n1 (gC A T (fun y=>left y&&!(y==(i:Int)))) c/\Fr (fun b=>10<=lab b) w c):=by show∀c,_;rw[bx];exact ba.o
    have cX:_:=fun e=>am (aM e)
    have n4:_:=fun e=>am (aK e)
    clear cC bx ba bo W aV hrow b6 b5 v0 am;dsimp only [eV] at ai a4;generalize (T.getD i t0).1=kd at*;generalize MZ (T.getD i t0).2.1=n at*;generalize (fm i).1=ad at*;generalize (fm i).2=cQ at*;go_wp2_with fail;go_roundw
    case rel=>exact⟨_,ag,ar.o _ (b9.alloc b8 _)⟩
    case measure=>rw[(ar.o _ ((aH _ l).alloc b8 (R #[U Q kd,H ad n cQ] 220))).1.left_eq,al.o.1];exact al.o.2
end
end Go.Proofs.YtpkjkjhanlbcoaaGreat
