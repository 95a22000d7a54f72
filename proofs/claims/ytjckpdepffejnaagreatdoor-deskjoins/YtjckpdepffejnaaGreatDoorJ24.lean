import Derived.Test.YtjckpdepffejnaaGreatDoorJ23
import Derived.Test.YtjckpdepffejnaaGreatDoorShf
import Derived.Lib.ParseIntBTie
import Derived.Laws.Externs
import Derived.Lib.ItoaLen
open Array renaming getElem?_modify->bE,size->OU
open Bool renaming false->O4,true->C
open Go renaming Addr->bB,Calls->M,TypeId->bI,Value->a7,info_parts->bM,maxLen->bL
open Go.Ending renaming returned->OV
open Go.IntKind renaming i64->OW
open Go.Obj renaming cells->E
open Go.Proofs.Tryz renaming prog->J
open Go.RowKit renaming Below->O,intOf->bG
open Go.Value renaming bool->bA,int->U,ownBlock->O9,pointer->bq,slice->Z,tuple->ay
open Go.World renaming alloc->bu,cell?->V,frozen?->bF,heap->OT,ownsRow->aC,setCell->O8
open Int renaming toNat->K
open List renaming getD->OZ,length->OQ,length_nil->vw,map_append->bV,mem_append->bw,mem_singleton->bN,take_add_one->va
open Option renaming map_eq_some_iff->Ck,map_some->bH,none->O0,some->OR
open Option.some renaming inj->kg
namespace Go.Proofs.YtjckpdepffejnaaGreatDoor
set_option maxRecDepth 100000
set_option maxHeartbeats 4000000
open Tryz
open Go.RowKit W Kp ch
theorem Dg {P:Prop}(h:P:=by
 unfold slt;have l1:=m8 (bits .and .i64 (cS k) 1!=0) 0 [];have l2:=m8 (bits .and .i64 (cS k) 2!=0) 1 (eX (bits .and .i64 (cS k) 1!=0) 0 [])
 have l3:=m8 (k==11||k==12) 2 (eX (bits .and .i64 (cS k) 2!=0) 1 (eX (bits .and .i64 (cS k) 1!=0) 0 []))
 have l4:=m8 (bits .and .i64 (cS k) 4!=0) 3 (eX (k==11||k==12) 2 (eX (bits .and .i64 (cS k) 2!=0) 1 (eX (bits .and .i64 (cS k) 1!=0) 0 [])))
 have OJ:=m8 (k==1||k==5) 4 (eX (bits .and .i64 (cS k) 4!=0) 3 (eX (k==11||k==12) 2 (eX (bits .and .i64 (cS k) 2!=0) 1 (eX (bits .and .i64 (cS k) 1!=0) 0 []))))
 simp only [List.length_nil] at l1;omega):P:=h
theorem rz {P:Prop}(h:P:=by go_wp2;go_end0;exact⟨⟨_,rfl⟩,by simp only [World.setCell,Array.getElem?_modify,if_true,hx,Option.map_some];simp[h8,cA,m9],(Fr.refl _ w).set _ _ _ rfl⟩):P:=h
theorem xE {P:Prop}(h:P:=by
 have:=h.o.s
 match s,this with
 |none,a=>exact⟨_,a⟩
 |some (n,o,W),⟨c,t,F,G,S,i,p1,p2,_⟩=>exact⟨_,p2⟩):P:=h
theorem tX {P:Prop}(h:P:=by go_enter func60,ntmps60;go_wp2;go_ret;exact⟨rfl,rfl⟩):P:=h
def stepW (i:Nat):List UInt8:=[[],[105,110,116],[110,105,108],[109,111,118,101],[112,97,105,114],[118,101,99,116,111,114],[119,101,97,107],[101,112,104,101,109],[103,117,97,114,100],[114,101,103],[112,111,112],[103,101,116],[115,101,116],[108,101,110],[115,97,109,101],[109,105,110,111,114],[109,97,106,111,114]].getD i []
structure g7 (w:World):Prop where
 mx:∃m,w.cell? (av 1 0)=some (ak m)
 tab:Lib.TabIs Tryz.prog w "internal/strconv.uint64pow10" .u64 Lib.pow10Tab
 es:∃tp p,w.var? Tryz.prog "strconv.ErrSyntax" =some #[.iface tp p]
 er:∃tp p,w.var? Tryz.prog "strconv.ErrRange" =some #[.iface tp p]
 Ng:∀i:Nat,i<17->w.cell? (av 0 i)=some (.string ⟨(stepW i).toArray⟩)
theorem xF {w w':az}{n:String}{c:Array a7}(h:w.var? J n=OR c)(hb:O (OU (OT w)) w w'):w'.var? J n=OR c:=by
 unfold World.var? at h⊢;cases hg:prog.globalNamed n with
 |none=>rw[hg] at h;exact absurd h ac
 |some g=>
  rw[hg] at h;simp only [Option.bind_some] at h⊢;cases hw:w.heap[g]? with
  |none=>rw[hw] at h;exact absurd h ac
  |some o=>rw[hw] at h;rw[(hb.block g (cj hw)).trans hw];exact h
theorem g7.below {w w':az}(h:g7 w)(hb:O (OU (OT w)) w w'):g7 w':=by obtain⟨⟨m,e⟩,g,⟨a,b,j⟩,⟨c,d,k⟩,f⟩:=h;exact⟨⟨m,(hb.cell (aT _ _ e)).trans e⟩,xF g hb,⟨a,b,xF j hb⟩,⟨c,d,xF k hb⟩,λi hi=>(hb.cell (aT _ _ (f i hi))).trans (f i hi)⟩
def tl (l:List UInt8):List UInt8:=Lib.trimLeftB l 32
def jW:Nat->List UInt8->List ByteArray
 |0,_=>[]
 |n+1,r=>if r=[] then[] else⟨(Lib.cut r [32]).1.toArray⟩::jW n (tl (Lib.cut r [32]).2.1)
def h9 (s:ByteArray):List ByteArray:=jW 5 (tl s.data.toList)
theorem tY (l:List UInt8):OQ (tl l)<=OQ l:=by unfold tl Lib.trimLeftB;exact(List.dropWhile_suffix _).length_le
theorem xG (l s:List UInt8):OQ (Lib.cut l s).1<=OQ l/\OQ (Lib.cut l s).2.1<=OQ l:=by unfold Lib.cut;split<;>simp<;>omega
theorem Dh:∀(n:Nat)(r:List UInt8),OQ (jW n r)<=n
 |0,_=>by simp[jW]
 |n+1,r=>by
  unfold jW;have:=Dh n (tl (Lib.cut r [32]).2.1)
  split<;>simp;omega
theorem Di:∀(n:Nat)(r:List UInt8),∀x∈jW n r,x.size<=OQ r
 |0,_,x,b=>by simp[jW] at b
 |n+1,r,x,b=>by
  unfold jW at b;by_cases h:r=[]
  ·rw[aN h] at b;simp at b
  ·rw[aJ h,List.mem_cons] at b;rcases b with rfl|b
   ·exact(xG r [32]).1
   ·have c:=Di n _ x b;have d:=tY (Lib.cut r [32]).2.1;have e:=(xG r [32]).2;omega
theorem Nh (s:ByteArray):OQ (h9 s)<=5:=Dh _ _
theorem Ni (s:ByteArray)(x:ByteArray)(b:x∈h9 s):x.size<=s.size:=by have c:=Di 5 _ x b;have d:=tY s.data.toList;have e:OQ s.data.toList=s.size:=rfl;omega
theorem Dj:(prog.info? 9).map (λi=>(i.zero,i.size,i.bytes))=OR (OR (.string .empty),1,16):=ah
def Dk:a7->Nat
 |Z _ n _=>n
 |_=>0
theorem Dl (s:ByteArray)(w:az):M J 23 #[.string s,.string ⟨#[32]⟩] w λe w'=>e=OV (.string ⟨(tl s.data.toList).toArray⟩)/\w=w':=
 (Tryz.strings_TrimLeft_one s 32 ae w).mono λ_ _ h=>⟨h.1,h.2.symm⟩
theorem Nj (n:Nat):jW n []=[]:=by cases n<;>simp[jW]
theorem Nk (r:List UInt8)(hr:OQ r<=4000000000)(w:az)(b:g7 w):M J 24 #[.string ⟨r.toArray⟩,.string ⟨#[32]⟩] w λe w'=>e=OV (ay #[.string ⟨(Lib.cut r [32]).1.toArray⟩,.string ⟨(Lib.cut r [32]).2.1.toArray⟩,bA (Lib.cut r [32]).2.2])/\O (OU (OT w)) w w':=by
 obtain⟨m,hm⟩:=b.mx;refine(Tryz.strings_Cut _ _ m w (by show OQ r<_;omega) hm).mono ?_;rintro e w' ⟨rfl,n,rfl⟩
 exact⟨rfl,below_drewN bZ n⟩
theorem Nl {n:Nat}{r:List UInt8}(h:r≠[]):jW (n+1) r=⟨(Lib.cut r [32]).1.toArray⟩::jW n (tl (Lib.cut r [32]).2.1):=by rw[jW,aJ h]
theorem Nn (s:ByteArray)(hs:s.size<=4000000000)(w:az)(p:g7 w):
 M J 16 #[.string s] w λe w'=>∃v,e=OV v/\aC w' (OU (OT w)) 9 1 v (OQ (h9 s)) ((h9 s).map Value.string)/\O (OU (OT w)) w w':=by
 obtain⟨x,B,N,S,ab⟩:=bM Dj;have ad:=cg hs;have ag:=cg p;clear hs p;go_enter func16,ntmps16;go_wp2_with (go_at_call 23;refine(Dl _ _).mono ?_;rintro e w' ⟨rfl,rfl⟩)
 go_loopw [3,4] (λwv rv wr=>∃(W:List ByteArray)(r:List UInt8)(l:Option bB)(rc:Nat),h9 s=W++jW (5-OQ W) r/\OQ W<=5/\OQ r<=s.size/\rv=.string ⟨r.toArray⟩/\wv=Z l (OQ W) rc/\aA (aC wr (OU (OT w)) 9 1 (Z l (OQ W) rc) (OQ W) (W.map Value.string))/\aA (O (OU (OT w)) w wr)) (λwv _ _=>6-Dk wv)
 exact⟨[],_,O0,0,rfl,a4 _,tY _,rfl,rfl,a9 _ _ _ _,aH _ _⟩
 ·
   obtain⟨W,r,l,rc,c,hn,hr,rfl,rfl,f,d⟩:=hrel;by_cases h0:r=[]
   ·subst h0;rw[Nj,List.append_nil] at c;have g:=cg c;clear c;go_wp2;go_ret;rw[g.o];exact⟨_,rfl,f.o,d.o⟩
   ·by_cases ar:OQ W<=4
    ·have aB:(OQ W:Int)<=4:=aa;have aF:(!r.isEmpty)=C:=by cases r<;>simp_all
     have P:=Nk r (by have:=ad.o;omega) wr (ag.o.below d.o)
     have aR:=(xG r [32]).2;rw[show 5-OQ W=(4-OQ W)+1 by omega,Nl h0] at c
     go_upto_region 5 with(go_at_call 24;refine P.mono ?_;rintro e n ⟨rfl,o⟩)
     have m:=cU (cK f.o (λk e=>o.block k (cu f.o k e).2)) (d.o.trans (o.mono d.o.size))
     clear P o f d;generalize (⟨(Lib.cut r [32]).1.toArray⟩:ByteArray)=F at*;have ht:=tY (Lib.cut r [32]).2.1;generalize (Lib.cut r [32]).2.1=aV at*;generalize (Lib.cut r [32]).2.2=a0 at*;have ai:=m.o.2.size;have g:=cg c;clear c;go_wp2_with (first|(at_builtin;refine wpList_append_lies _ rfl _ _ 22 rfl (OU (OT w)) 9 x (.string .empty) 1 16 underlying22 B N S ab rfl ae (Z l (OQ W) rc) (OQ W) (W.map Value.string) rfl (gq m.o.1 _) ⟨OU (OT n),0,O0⟩ 1 1 [.string F] rfl rfl ?_ ?_ ae (by unfold bL;omega) aa (by simp;omega) _ rfl ?_;(intro j u i;match j,i with|0,i=>(cases i;simp[Addr.add])|k+1,i=>(simp at i));(intro u q;simp at q;subst q;rfl);intro al am an ao ap a1 a2)|(go_at_call 23;refine(Dl _ _).mono ?_;rintro e bb ⟨rfl,rfl⟩))
     have t:aA (aC an (OU (OT w)) 9 1 (Z (au al) (OQ W+1) am) (OQ W+1) ((W++[F]).map Value.string)/\_):=⟨by rw[bV];exact ao,(m.o.2.trans ((aw n (E #[.string F] 9)).mono ai)).grown ap (by simp;omega) (λb e=>(cu m.o.1 b e.symm).1)⟩
     go_roundw;exact⟨W++[F],_,_,_,by rw[g.o,bf,aX,show 5-(OQ W+[F].length)=4-OQ W by simp only [List.length_cons,vw];omega];rfl,by simp;omega,aa,rfl,by rw[aX];rfl,by rw[aX];exact t.o.1,t.o.2⟩
     simp[Dk];omega
    ·rw[show 5-OQ W=0 by omega] at c;have g:=cg (show h9 s=W by simpa[jW] using c)
     go_wp2;go_ret;rw[g.o];exact⟨_,rfl,f.o,d.o⟩
theorem below_grow (w:az)(k:Nat)(os:Array Obj):O (OU (OT w)) w (Sort.grow (w.drewN k) os):=
 ⟨rfl,rfl,rfl,by show _<=(_++_:Array Obj).size;rw[Array.size_append];exact Nat.le_add_right _ _,λb hb=>Array.getElem?_append_left hb⟩
theorem p3 (n:Int)(h:gQ n)(w:az)(b:g7 w):M J 54 #[ak n] w λe w'=>e=OV (.string ⟨(Lib.itoa n).toArray⟩)/\O (OU (OT w)) w w':=by
 have P:=Tryz.strconv_FormatInt_10 n (by have:=h.1;omega) (by have:=h.2;omega) w b.tab;go_enter func54,ntmps54;go_wp2_with (go_at_call 46;refine P.mono ?_;rintro e w1 ⟨rfl,k,os,rfl⟩)
 go_ret;exact⟨rfl,below_grow _ _ _⟩
def rA (l:List UInt8):Option Int:=
 match Lib.parseIntB 64 l with
 |.ok v=>if Lib.itoa v=l then OR v else O0
 |_=>O0
def jC (s:ByteArray):Option Int:=rA s.data.toList
def nums:List ByteArray->Option (List Int)
 |[]=>OR []
 |s::l=>match jC s,nums l with
  |some v,OR N=>OR (v::N)
  |_,_=>O0
def rB:Option (List Int)->Option Int->Option (List Int)
 |some N,OR v=>OR (N++[v])
 |_,_=>O0
theorem Do:∀(l:List ByteArray)(s:ByteArray),nums (l++[s])=rB (nums l) (jC s)
 |[],s=>by show(match jC s,nums [] with|some v,OR N=>OR (v::N)|_,_=>O0)=_;cases h:jC s<;>simp[nums,rB]
 |a::l,s=>by show(match jC a,nums (l++[s]) with|some v,OR N=>OR (v::N)|_,_=>O0)=_;rw[Do l s];show _=rB (match jC a,nums l with|some v,OR N=>OR (v::N)|_,_=>O0) _;cases jC a<;>cases nums l<;>cases jC s<;>simp[rB]
def gG (w:az)(ad:Option bB)(L:List ByteArray):Prop:=0<OQ L->∃b o,ad=OR ⟨b,o,O0⟩/\b<OU (OT w)/\∀i,i<OQ L->V w (av b (o+i))=OR (.string (OZ L i .empty))
theorem gG.below {w w':az}{ad:Option bB}{L:List ByteArray}(h:gG w ad L)(hb:O (OU (OT w)) w w'):gG w' ad L:=λhp=>by obtain⟨b,o,e,hl,hc⟩:=h hp;exact⟨b,o,e,aL hl hb.size,λi hi=>(hb.cell hl).trans (hc i hi)⟩
theorem gG.of {w:az}{base b n cap:Nat}{L:List ByteArray}(h:aC w base 9 1 (Z (au b) n cap) n (L.map Value.string)):gG w (au b) L:=λ_=>by
 refine⟨b,0,rfl,(cu h b rfl).2,λi hi=>?_⟩
 rw[Nat.zero_add];refine(kt h (i:=i) ?_).1;rw[List.getElem?_map,aP hi,aM,aP hi];rfl
theorem No:(prog.info? 2).map (λi=>(i.zero,i.size,i.bytes))=OR (OR (ak 0),1,8):=ah
def nW (v:Int×Int):Prop:=v.1=3\/gQ v.2
def m_ (s:cT):Prop:=∀nd∈s.2,∀v∈nd.2,nW v
theorem Np (M:cT->Int->cT)(T:List Int)(s:cT)(x:Int):nW (el M T s x).1:=by
 unfold el nW;split
 ·split
  ·split<;>exact aK rfl
  ·exact aI (show gQ 0 from⟨ae,ae⟩)
 ·refine aI ?_;show gQ (dp x)
  unfold dp;split
  ·rename_i h;have:=xU _ _ h;exact⟨aa,aa⟩
  ·exact⟨ae,ae⟩
theorem Dp {M:cT->Int->cT}{T:List Int}(hM:∀s a,m_ s->m_ (M s a))(s:cT)(l:List Int)(hs:m_ s):(∀v∈(dE M T s l).1,nW v)/\m_ (dE M T s l).2:=by
 have key:∀(l:List Int)(r:List (Int×Int)×cT),(∀v∈r.1,nW v)->m_ r.2->(∀v∈(l.foldl (λr x=>(r.1++[(el M T r.2 x).1],(el M T r.2 x).2)) r).1,nW v)/\m_ (l.foldl (λr x=>(r.1++[(el M T r.2 x).1],(el M T r.2 x).2)) r).2:=by
  intro l
  induction l with
  |nil=>exact λr c b=>⟨c,b⟩
  |cons x l d=>
   intro r c b;rw[a8];refine d _ (λv hv=>?_) ?_
   ·rcases bw.1 hv with hv|hv
    ·exact c v hv
    ·rw[bN.1 hv];exact Np M T r.2 x
   ·unfold el;split
    ·split
     ·split
      ·exact b
      ·exact hM _ _ b
     ·exact b
    ·exact b
 exact key l ([],s) ac hs
theorem Dq {T:List Int}{kd:Int->Int}{sh:Int->List Int}:∀(n:Nat)(s:cT)(a:Int),m_ s->m_ (met T kd sh n s a)
 |0,_,_,h=>h
 |n+1,s,a,h=>by
  have:=Dp (T:=T) (Dq (T:=T) (kd:=kd) (sh:=sh) n) (s.1++[a],s.2++[(kd a,[])]) (sh a) (λnd hn v hv=>by
   rcases bw.1 hn with hn|hn
   ·exact h nd hn v hv
   ·rw[bN.1 hn] at hv;simp at hv)
  intro nd hn v hv;rcases List.mem_or_eq_of_mem_set hn with hn|rfl
  ·exact this.2 nd hn v hv
  ·exact this.1 v hv
theorem Nq (N y g:Nat)(ws:List Int)(Q:List b8)(l:List Int):(∀v∈(gN N y g ws Q l).1,gQ v.2)/\∀nd∈(gN N y g ws Q l).2.2,∀v∈nd.2,gQ v.2:=by
 have h:=GM N y g ws Q l;have h1:OQ (gN N y g ws Q l).2.1<=4000:=by refine aQ h.ok.le ?_;exact BC
 have hk:(∀v∈(gN N y g ws Q l).1,nW v)/\m_ (gN N y g ws Q l).2:=Dp (Dq _) _ _ (by intro nd hn;simp at hn)
 have c:∀v:Int×Int,nW v->n5 (OQ (gN N y g ws Q l).2.1) v->_:=λv a b=>a.elim (λe=>by have:=b e;exact⟨aa,aa⟩) id;refine⟨λv hv=>c v (hk.1 v hv) (h.eC v hv),λnd hn v hv=>c v (hk.2 nd hn v hv) ?_⟩
 obtain⟨i,hi,e⟩:=List.mem_iff_getElem.1 hn;obtain⟨d,q1,_,_,f,_⟩:=h.nw i ac (by rw[<-h.ok.len];exact hi)
 rw[aP hi,e] at q1;have q1:nd=d:=by simpa using q1
 exact f v (q1▸hv)
theorem ej.Dr {w1 w:az}{c:Wc}{t:pZ}{i k:Nat}{F G:Nat->Prop}{S:cv}{W:ck}(h:ej w1 c t F G S W i k w)(hi:i<=10000):(∀v∈(ee.eU W.T W.wt W.rs).1,gQ v.2)/\∀nd∈(ee.eU W.T W.wt W.rs).2.2,∀v∈nd.2,gQ v.2:=by obtain⟨b,d⟩:=h.cJ hi;rw[<-b,<-d];exact Nq _ _ _ _ _ _
theorem xH (l:List ByteArray){i:Nat}(hi:i<OQ l):l.take (i+1)=l.take i++[OZ l i .empty]:=by rw[va,aP hi,aM,aP hi];rfl
theorem xI:∀{l:List ByteArray}(i:Nat),nums (l.take i)=O0->nums l=O0
 |[],i,h=>by simpa using h
 |s::l,0,h=>by simp[nums] at h
 |s::l,i+1,h=>by
  rw[List.take_succ_cons] at h;unfold nums at h⊢;cases hs:jC s<;>simp only [hs] at h⊢
  cases hl:nums (l.take i) with
  |none=>rw[xI i hl]
  |some N=>rw[hl] at h;cases h
theorem Nr (s:ByteArray)(hs:s.size<=4000000000)(w:az)(b:g7 w):
 M J 45 #[.string s,ak 10,ak 64] w λe w'=>O (OU (OT w)) w w'/\((∃v,Lib.parseIntB 64 s.data.toList=.ok v/\e=OV (ay #[ak v,.nilIface]))\/(jC s=O0/\∃v T p,e=OV (ay #[ak v,.iface T p]))):=by
 cases h:Lib.parseIntB 64 s.data.toList with
 |ok v=>
  refine(Tryz.strconv_ParseInt_10_at64_ok s aa v h w).mono ?_;rintro e w' ⟨rfl,hw⟩
  refine⟨?_,aK ⟨v,rfl,rfl⟩⟩
  rcases hw with rfl|⟨t,rfl⟩
  ·exact aH _ _
  ·exact Lib.bytesWorld_below _ _ _
 |«syntax»=>
  obtain⟨tp,p,hv⟩:=b.es;refine(Tryz.strconv_ParseInt_10_at64_syntax_var s aa h tp p w hv).mono ?_;rintro e w' ⟨N,rfl,_,_,hb⟩
  exact⟨hb,aI ⟨by unfold jC rA;rw[h],_,_,_,rfl⟩⟩
 |range=>
  obtain⟨tp,p,hv⟩:=b.er;refine(Tryz.strconv_ParseInt_10_at64_range_var s aa h tp p w hv).mono ?_;rintro e w' ⟨N,rfl,_,_,hb⟩
  exact⟨hb,aI ⟨by unfold jC rA;rw[h],_,_,_,rfl⟩⟩
theorem Ns (L:List ByteArray)(ad:Option bB)(cp:Nat)(w:az)(ag:gG w ad L)(hm:OQ L<=10)(hz:∀x∈L,x.size<=4000000000)(ai:g7 w):
 M J 34 #[Z ad (OQ L) cp] w λe w'=>O (OU (OT w)) w w'/\((∃N v,nums L=OR N/\e=OV (ay #[v,bA C])/\aC w' (OU (OT w)) 2 1 v (OQ N) (N.map (Value.int OW)))\/(nums L=O0/\e=OV (ay #[Z O0 0 0,bA O4]))):=by
 obtain⟨al,am,an,ao,ap⟩:=bM No;have ar:=cg ag;have aB:=cg hm;have aF:=cg hz;have t:=cg ai;go_enter func34,ntmps34;go_wp2
 go_loopw [4,11] (λnv iv wr=>∃(i:Nat)(N:List Int)(g:Option bB)(rc:Nat),i<=OQ L/\iv=ak i/\aA (nums (L.take i)=OR N)/\aA (OQ N=i)/\nv=Z g (OQ N) rc/\aA (aC wr (OU (OT w)) 2 1 (Z g (OQ N) rc) (OQ N) (N.map (Value.int OW)))/\aA (O (OU (OT w)) w wr)) (λ_ iv _=>OQ L-K (bG iv))
 exact⟨0,[],O0,0,a4 _,rfl,rfl,rfl,rfl,a9 _ _ _ _,aH _ _⟩
 ·
   obtain⟨i,N,g,rc,hi,rfl,B,F,rfl,l,c⟩:=hrel;by_cases m:i<OQ L
   ·obtain⟨bp,br,aR,l0,hc⟩:=ar.o aa;subst aR;have bs:=(c.o.cell l0).trans (hc i m)
    have aV:=cg (xH L m)
    have a0:=aF.o (OZ L i .empty) (by rw[aM,aP m];exact a_ m)
    have n:=cg (show nums (L.take (i+1))=rB (nums (L.take i)) (jC (OZ L i .empty)) by rw[aV.o,Do])
    generalize OZ L i .empty=st at*;have P:=Nr st a0 wr (t.o.below c.o)
    rw[B.o] at n
    go_upto_region 6 with(go_at_call 45;refine P.mono ?_;rintro e a1 ⟨d,⟨v,hv,rfl⟩|⟨hn,v,T,p,rfl⟩⟩)
    ·have hk:gQ v:=by
      have:=Lib.parseIntB_bounds hv;simp at this
      exact⟨aa,aa⟩
     have S:=p3 v hk a1 (t.o.below (c.o.trans (d.mono c.o.size)))
     by_cases hq:Lib.itoa v=st.data.toList
     ·have hB:(!Lib.itoa v==st.toList)=O4:=by rw[Lib.toList_data,hq];simp
      have a2:=cg (show nums (L.take (i+1))=OR (N++[v]) by rw[n.o,show jC st=OR v by unfold jC rA;rw[hv];exact aN hq];rfl)
      go_upto_region 8 with(go_at_call 54;refine S.mono ?_;rintro e o ⟨rfl,q⟩)
      have s:=cU (cK (cK l.o (λk e=>d.block k (cu l.o k e).2)) (λk e=>q.block k (aL (cu l.o k e).2 d.size))) ((c.o.trans (d.mono c.o.size)).trans (q.mono (aQ c.o.size d.size)))
      have bb:=aw o (E #[U OW v] 2)
      have bd:=s.o.2.size;have bt:OQ N<=10:=by have:=F.o;have:=aB.o;omega
      go_wp2_with (at_builtin;refine wpList_append_lies _ rfl _ _ 66 rfl (OU (OT w)) 2 al (ak 0) 1 8 underlying66 am an ao ap rfl ae (Z g (OQ N) rc) (OQ N) (N.map (Value.int OW)) rfl (gq s.o.1 _) ⟨OU (OT o),0,O0⟩ 1 1 [ak v] rfl rfl ?_ ?_ ae (by unfold bL;omega) aa (by simp;omega) _ rfl ?_;(intro j u f;match j,f with|0,f=>(cases f;simp[Addr.add])|k+1,f=>(simp at f));(intro u W;simp at W;subst W;rfl);intro be bg bi bl bn bx b0)
      have ab:aA (aC bi (OU (OT w)) 2 1 (Z (au be) (OQ N+1) bg) (OQ N+1) ((N++[v]).map (Value.int OW))/\_):=⟨by rw[bV];exact bl,(s.o.2.trans (bb.mono bd)).grown bn (by simp;omega) (λb e=>(cu s.o.1 b e.symm).1)⟩
      go_roundw;exact⟨i+1,N++[v],_,_,aa,aj,a2,by have:=F.o;show OQ (N++[v])=i+1;rw[aX,this];rfl,by rw[aX];rfl,by rw[aX];exact ab.o.1,ab.o.2⟩
      simp[bG];omega
     ·have hB:(!Lib.itoa v==st.toList)=C:=by rw[Lib.toList_data];simpa using hq
      have bo:=cg (show nums L=O0 from xI (i+1) (by rw[n.o,show jC st=O0 by unfold jC rA;rw[hv];exact aJ hq];rfl))
      clear hq;go_wp2_with (go_at_call 54;refine S.mono ?_;rintro e o ⟨rfl,q⟩)
      go_ret2;exact⟨(c.o.trans (d.mono c.o.size)).trans (q.mono (aQ c.o.size d.size)),aI ⟨bo.o,rfl⟩⟩
    ·go_wp2;go_ret2;exact⟨c.o.trans (d.mono c.o.size),aI ⟨(cg (show nums L=O0 from xI (i+1) (by rw[n.o,hn];rfl))).o,rfl⟩⟩
   ·obtain rfl:i=OQ L:=aa;go_wp2;go_ret2;exact⟨c.o,aK ⟨N,_,(cg (show nums L=OR N by have:=B.o;rwa [ba] at this)).o,rfl,l.o⟩⟩
section
variable {P:Program}{w:az}
theorem Nt (base:Nat)(t u ty e:bI)(i:TypeInfo)(ht:P.underlying t=OR (.slice e))(d:P.underlying u=OR .string)(hi:P.info? e=OR i)(hz:i.zero=OR (U .u8 0))(l:i.size=1)(m:i.bytes=1)
 (v:a7)(n:Nat)(f:List a7)(j:aC w base e 1 v n f)(s:ByteArray)(B:n+s.size<=bL)(F:n+s.size<=140737488355328){k:a7}{w':az}
 (hr:(Builtin.append_ #[t,u] ty #[v,.string s]).run P w=.ok k w')(o:k=Z O0 0 0↔v=Z O0 0 0/\s.size=0):∀b,O9 k=OR b->O9 v=OR b\/b=OU (OT w):=by
 intro b hb;have p:OQ f=n:=by simpa using j.1
 rcases j.2 with⟨rfl,rfl⟩|⟨g,cap,q,rfl,N,hg,S,W,ab,ad⟩
 ·by_cases hm:s.size=0
  ·rw[o.2 ⟨rfl,hm⟩] at hb;simp[Value.ownBlock] at hb
  ·have c:=run_append_nil_string w t u ty e i _ ht d hi hz s aa aa (by rw[m];omega)
   rw[hr] at c;injection c with c _
   rw[c] at hb;simp[Value.ownBlock] at hb;exact aI hb.symm
 ·by_cases x:n+s.size<=cap
  ·have c:=Lib.run_append_room_string w t u ty e i ht d hi l g n cap q hg s x aa;rw[hr] at c;injection c with c _
   rw[c] at hb;exact aK hb
  ·have c:=Lib.run_append_grow_string w t u ty e i _ ht d hi hz _ n cap f (by rw[l];simpa using p) (j.cells rfl) s aa aa (by rw[m];exact growslice_fits aa aa)
   rw[hr] at c;injection c with c _
   rw[c] at hb;simp[Value.ownBlock] at hb;exact aI hb.symm
theorem Nv {ops:Array Oper}{f:List Oper}{o:Oper}{a:Act}{Q:Exit->Act->az->Prop}(B:o.guard=O0)(sl x:Operand)(t u:bI)(ho:o.op=.call {callee:=.builtin .append,args:=#[sl,x],argTypes:=#[t,u]})
 (base:Nat)(e:bI)(i:TypeInfo)(ht:P.underlying t=OR (.slice e))(g:P.underlying u=OR .string)(hi:P.info? e=OR i)(hz:i.zero=OR (U .u8 0))(j:i.size=1)(k:i.bytes=1)
 (v:a7)(n:Nat)(d:List a7)(hs:a.eval sl=v)(l:aC w base e 1 v n d)(s:ByteArray)(F:a.eval x=.string s)(m:n+s.size<=bL)(p:n+s.size<=140737488355328)(N:base<=OU (OT w))
 (h:∀c w',aC w' base e 1 c (n+s.size) (d++Lib.strCells s)->w.grownBy w' v.ownBlock->(c=Z O0 0 0↔v=Z O0 0 0/\s.size=0)->(∀b,O9 c=OR b->O9 v=OR b\/b=OU (OT w))->wpList P ops Q f (a.put o.dst c) w'):wpList P ops Q (o::f) a w:=by
 refine wpList_plain B λK S=>?_;obtain⟨c,w',hr,W,ab,q⟩:=Lib.run_append_own_string w base t u o.type e i ht g hi hz j k v n d l s m p N;unfold Oper.wp execOp;simp only [ho,resolve,invoke,builtin,Sem.run_bind,Sem.run_pure,Result.andThen_ok,List.map_toArray,List.map_cons,List.map_nil,hs,F,hr];exact S _ _ (h c w' W ab q (Nt base t u o.type e i ht g hi hz j k v n d l s m p hr q))
end
structure fO (X:Nat->Prop)(k d:Nat)(out:List UInt8)(w:az):Prop where
 lo:X k
 mem:∃p v,w.heap[k]?=OR (E #[aq d,p,v] 52 (0,0))/\(p=bq O0\/p=bq (OR ⟨k,1,O0⟩))/\aC w 0 5 1 v (OQ out) (Lib.byteCells out)/\O9 v≠OR k/\(out=[]->v=Z O0 0 0)/\∀b,O9 v=OR b->X b
theorem fO.lt {X:Nat->Prop}{k d:Nat}{b:List UInt8}{w:az}(h:fO X k d b w):k<OU (OT w):=by obtain⟨p,v,hb,_⟩:=h.mem;exact cj hb
theorem fO.fr {X F:Nat->Prop}{k d:Nat}{c:List UInt8}{w w':az}(h:fO X k d c w)(f:Fr F w w')(hd:∀b,X b->¬F b):fO X k d c w':=by obtain⟨p,v,g,l,i,m,n,j⟩:=h.mem;exact⟨h.lo,p,v,(f.block k (cj g) (hd k h.lo)).trans g,l,cK i (λb e=>f.block b (cu i b e).2 (hd b (j b e.symm))),m,n,j⟩
theorem fO.below {X:Nat->Prop}{k d:Nat}{c:List UInt8}{w w':az}(h:fO X k d c w)(hb:O (OU (OT w)) w w'):fO X k d c w':=by obtain⟨p,v,f,i,g,j⟩:=h.mem;exact⟨h.lo,p,v,(hb.block k (cj f)).trans f,i,cK g (λb e=>hb.block b (cu g b e).2),j⟩
theorem infoByte:(prog.info? 5).map (λi=>(i.zero,i.size,i.bytes))=OR (OR (U .u8 0),1,1):=ah
theorem Ds:(prog.info? 50).map (·.size)=OR 2:=ah
theorem Nw (k:Nat)(w:az)(h0:V w (av k 1)=OR (bq (OR ⟨k,1,O0⟩))):
 M J 65 #[bq (OR ⟨k,1,O0⟩)] w λe w'=>e=OV (ay #[])/\w=w':=by
 obtain⟨j,b,_⟩:=Ck.1 Ds;go_wp2;rw[Lib.run_neq_ptr_same w _ underlying47 b];go_wp2;go_end0;exact⟨rfl,rfl⟩
theorem Nx (k:Nat)(w:az)(c:a7)(v:a7)(hk:w.heap[k]?=OR (E #[c,bq O0,v] 52 (0,0))):
 M J 65 #[bq (OR ⟨k,1,O0⟩)] w λe w'=>e=OV (ay #[])/\O8 w ⟨k,1,O0⟩ (bq (OR ⟨k,1,O0⟩))=w':=by
 obtain⟨j,b,f⟩:=Ck.1 Ds;have h0:V w (av k 1)=OR (bq O0):=aD hk
 have g:bF w (av k 1)=O4:=aE hk
 have d:w.shape? k=OR (52,3):=by simp[World.shape?,hk]
 go_enter func65,ntmps65;go_wp2;rw[Lib.run_to_unsafe w ⟨k,1,O0⟩ underlying47 underlying169 b (by rw[f];decide) d (by show 1<3;decide)];simp only [Result.andThen];rw[Oper.upon_value];go_wp2;rw[run_callFunc_extern func96 ah ah ah (e:=Extern.AbiNoEscape.same) ah];rw[Lib.run_noEscape];simp only [Result.andThen];rw[Oper.upon_value];go_wp2;rw[Lib.run_from_unsafe w ⟨k,1,O0⟩ underlying169 underlying47 b d ah];simp only [Result.andThen];rw[Oper.upon_value];go_wp2;go_end0;exact⟨rfl,rfl⟩
theorem xJ {w:az}{base n m:Nat}{e:bI}{v:a7}{l:List a7}(h:aC w base e m v n l):∃ao b cap,v=Z ao b cap:=by
 rcases h.2 with⟨hv,_⟩|⟨g,cap,c,hv,_⟩
 ·exact⟨_,_,_,hv⟩
 ·exact⟨_,_,_,hv⟩
theorem Dt {X:Nat->Prop}{k d:Nat}{c:List UInt8}{w:az}(h:fO X k d c w)(s:ByteArray)(hs:OQ c+s.size<=140737488355328):
 M J 38 #[bq (OR ⟨k,1,O0⟩),.string s] w λe w'=>(∃v,e=OV v)/\∃n,fO n k d (c++s.data.toList) w'/\b9 X w n w':=by
 obtain⟨p,v,hk,hp,hrow,o,F,hX⟩:=h.mem;have q:M J 65 #[bq (OR ⟨k,1,O0⟩)] w λe w'=>e=OV (ay #[])/\w'.heap[k]?=OR (E #[aq d,bq (OR ⟨k,1,O0⟩),v] 52 (0,0))/\aC w' 0 5 1 v (OQ c) (Lib.byteCells c)/\Fr (λb=>b=k) w w':=by
  rcases hp with rfl|rfl
  ·refine(Nx k w _ v hk).mono ?_;rintro e w' ⟨rfl,rfl⟩
   refine⟨rfl,by simp only [World.setCell,bE,if_true,hk,bH];simp,?_,(Fr.refl _ w).set _ _ _ rfl⟩
   exact iq hrow ((Fr.refl (λb=>b=k) w).set k 1 _ rfl) (λb e hb=>o (e.symm.trans (congrArg OR hb)))
  ·refine(Nw k w (by simp[World.cell?,hk])).mono ?_;rintro e w' ⟨rfl,rfl⟩
   exact⟨rfl,hk,hrow,Fr.refl _ _⟩
 obtain⟨N,hi,S,W,ab⟩:=bM infoByte;have H:=ge h.lo o hX;go_enter func38,ntmps38
 go_upto_region 2 with(go_at_call 65;refine q.mono ?_;rintro e w1 ⟨rfl,f,ad,t⟩)
 have an:V w1 (av k 2)=OR v:=aD f
 have u:=cU t f;clear q t;go_wp2_with (at_builtin;refine Nv rfl _ _ 48 9 rfl 0 5 N underlying48 underlying9 hi S W ab v (OQ c) _ rfl ad s rfl (by unfold bL;omega) aa (a4 _) ?_;intro ap j l x ag ai;obtain⟨ao,m,cap,rfl⟩:=xJ l;have i:=(x.block k (cj f) (λe=>H.o.2.1 e.symm)).trans f;have ar:V j (av k 2)=OR v:=aD i;have aB:bF j (av k 2)=O4:=(by simp[World.frozen?,i]))
 go_ret2;have B:O9 (Value.slice ao m cap)≠OR k:=by
  rcases l.2 with⟨e,_⟩|⟨g,c2,aF,e,_,hg,_⟩
  ·cases e;simp[Value.ownBlock]
  ·cases e;intro e;cases e;rw[i] at hg;exact absurd (kg hg) ac
 refine⟨⟨_,rfl⟩,λb=>X b\/O9 (Value.slice ao m cap)=OR b,⟨aK H.o.1,bq _,Z ao m cap,by simp only [World.setCell,bE,if_true,i,bH];simp,aI rfl,?_,B,λe=>?_,λb hb=>aI hb⟩,?_,?_⟩
 ·rw[aX,show OQ s.data.toList=s.size from rfl,show Lib.byteCells (c++s.data.toList)=Lib.byteCells c++Lib.strCells s by simp[Lib.byteCells,Lib.strCells]];exact iq l ((Fr.refl (λb=>b=k) j).set k 2 _ rfl) (λb e hb=>B (e.symm.trans (congrArg OR hb)))
 ·obtain⟨al,am⟩:=List.append_eq_nil_iff.1 e;exact ag.2 ⟨(cg F).o al,by show OQ s.data.toList=0;rw[am];rfl⟩
 ·exact((u.o.1.mono (λb e=>by subst e;exact H.o.1)).grown x (λb e=>aK (H.o.2.2 b e))).set k 2 _ H.o.1
 ·rintro b (hb|hb)
  ·exact aK hb
  ·rcases ai b hb with hc|hc
   ·exact aK (H.o.2.2 b hc)
   ·exact aI (hc▸u.o.1.size)
def kl (L:List ByteArray):List UInt8:=Lib.join (L.map (·.data.toList)) [32]
def txt (L:List ByteArray):List UInt8:=kl L++[10]
theorem rC {X:Nat->Prop}{k d:Nat}{f:List UInt8}{w:az}(h:fO X k d f w)(L:List ByteArray)(ad:Option bB)(cp:Nat)(q:gG w ad L)(s:0<OQ L)(hc:OQ L<=cp)(hn:OQ L<=1000000)(hs:OQ f+OQ (txt L)<=140737488355328):
 M J 22 #[aq k,Z ad (OQ L) cp] w λe w'=>(∃v,e=OV v)/\∃c,fO c k d (f++txt L) w'/\b9 X w c w':=by
 obtain⟨b,o,rfl,t,l⟩:=q s;have ht:OQ (txt L)=OQ (kl L)+1:=by simp[txt]
 have m:M J 39 #[Z (OR ⟨b,o,O0⟩) (OQ L) cp,.string ⟨#[32]⟩] w.drew λe w'=>e=OV (.string ⟨(kl L).toArray⟩)/\O (OU (OT w)) w w':=by
  refine(Tryz.strings_Join b o cp L ⟨#[32]⟩ w.drew (λj x u=>?_) t aa hc (by show OQ (kl L)<=_;omega)).mono ?_
  ·obtain⟨n,rfl⟩:=List.getElem?_eq_some_iff.1 u;have:=l j n;rw[aM,aP n] at this
   exact this
  ·rintro e w' ⟨rfl,hb⟩
   exact⟨rfl,(Below.drew (aH _ w)).trans hb⟩
 have p:∀w1,O (OU (OT w)) w w1->M J 38 #[bq (OR ⟨k,1,O0⟩),.string ⟨(kl L).toArray⟩] w1 λe w'=>(∃v,e=OV v)/\∃c,fO c k d (f++kl L) w'/\b9 X w c w':=λw1 hb=>by
  refine(Dt (h.below hb) ⟨(kl L).toArray⟩ (by show OQ f+OQ (kl L)<=_;omega)).mono ?_;rintro e w' ⟨he,c,i,g⟩
  exact⟨he,c,i,(b9.of hb).trans g⟩
 have H:=ge m p hs;clear m p l h hs;go_enter func22,ntmps22;go_wp2
 go_region_held3 (λ_=>True) (first|exact trivial) (first|(go_at_call 38;refine(H.o.2.1 _ B).mono ?_;rintro e F ⟨⟨v,rfl⟩,ai,N,S⟩)|(go_at_call 39;refine H.o.1.mono ?_;rintro e w1 ⟨rfl,B⟩))
 have W:M J 38 #[bq (OR ⟨k,1,O0⟩),.string ⟨#[10]⟩] F λe w'=>(∃v,e=OV v)/\∃c,fO c k d (f++txt L) w'/\b9 X w c w':=by
  refine(Dt N ⟨#[10]⟩ (by rw[aX];show _+1<=_;have:=H.o.2.2;omega)).mono ?_;rintro e w' ⟨he,c,i,g⟩
  refine⟨he,c,?_,S.trans g⟩
  have e:f++kl L++(⟨#[10]⟩:ByteArray).data.toList=f++txt L:=by rw[bf];rfl
  rw[<-e];exact i
 go_wp2_with (go_at_call 38;refine W.mono ?_;rintro e al ⟨⟨am,rfl⟩,ab,g,ag⟩)
 go_end0;exact⟨⟨_,rfl⟩,ab,g,ag⟩
def bs (l:List UInt8):ByteArray:=⟨l.toArray⟩
theorem jX {w:az}{b:Nat}{c:Array a7}{T:bI}(h:w.heap[b]?=OR (E c T (0,0))){i:Nat}{v:a7}(hi:c[i]?=OR v):V w (av b i)=OR v:=by simp[World.cell?,h,hi]
theorem Du (a b:List UInt8):bs a++bs b=bs (a++b):=by apply ByteArray.ext;simp[bs]
def rD (v:Int×Int):List UInt8:=if v.1=0 then[110,105,108] else if v.1=2 then[103,111,110,101] else if v.1=3 then 35::Lib.itoa v.2 else Lib.itoa v.2
def lV (k:Int):List UInt8:=if k=1 then[112,97,105,114] else if k=2 then[118,101,99,116,111,114] else if k=3 then[119,101,97,107] else if k=4 then[101,112,104,101,109] else[103,117,97,114,100]
theorem Dv (n:Int)(h:gQ n)(w:az)(b:g7 w):M J 59 #[ak n] w λe w'=>e=OV (.string (bs (35::Lib.itoa n)))/\O (OU (OT w)) w w':=by
 have hl:=Lib.itoa_length_le n h.1 h.2;go_enter func59,ntmps59;go_wp2_with (go_at_call 54;refine(p3 n h w b).mono ?_;rintro e w1 ⟨rfl,hb⟩)
 go_ret;exact⟨congrArg (λx=>Ending.returned (.string x)) (Du [35] (Lib.itoa n)),hb⟩
theorem Ny (k n:Int)(h:gQ n)(w:az)(c:g7 w):M J 91 #[.agg #[ak k,ak n]] w λe w'=>e=OV (.string (bs (rD (k,n))))/\O (OU (OT w)) w w':=by
 have b:=aw w (E #[U OW k,U OW n] 139)
 unfold rD;by_cases h0:k=0
 ·subst h0;go_enter func91,ntmps91;go_wp2;go_ret;exact⟨rfl,b⟩
 ·by_cases d:k=2
  ·subst d;go_enter func91,ntmps91;go_wp2;go_ret;exact⟨rfl,b⟩
  ·by_cases f:k=3
   ·subst f;go_enter func91,ntmps91;go_wp2_with (go_at_call 59;refine(Dv n h _ (c.below b)).mono ?_;rintro e w1 ⟨rfl,hb⟩)
    go_ret;exact⟨rfl,b.trans (hb.mono b.size)⟩
   ·rw[aJ h0,aJ d,aJ f];go_enter func91,ntmps91;go_wp2_with (go_at_call 54;refine(p3 n h _ (c.below b)).mono ?_;rintro e w1 ⟨rfl,hb⟩)
    go_ret;exact⟨rfl,b.trans (hb.mono b.size)⟩
theorem Nz (k:Int)(w:az):M J 60 #[ak k] w λe w'=>e=OV (.string (bs (lV k)))/\w=w':=by
 unfold lV;by_cases b:k=1
 ·subst b;exact tX
 ·by_cases c:k=2
  ·subst c;exact tX
  ·by_cases d:k=3
   ·subst d;exact tX
   ·by_cases f:k=4
    ·subst f;exact tX
    ·go_wp2;go_ret;exact⟨rfl,rfl⟩
theorem oT {w:az}{g base:Nat}{b:Array a7}{L:List ByteArray}(h:w.heap[g]?=OR (E b 9 (0,0)))(hb:base<=g)(e:b.toList=L.map Value.string)(hl:OQ L<=1000):aC w base 9 1 (Z (au g) (OQ L) (OQ L)) (OQ L) (L.map Value.string):=by
 have hs:b.size=OQ L:=by rw[<-Array.length_toList,e,a5]
 refine⟨ac,aI ⟨g,OQ L,b,rfl,hb,h,aG _,by unfold bL;omega,aa,?_⟩⟩
 rw[e,Nat.mul_one,List.take_of_length_le ac]
def iD (c:Int):List ByteArray:=if c=0 then[bs [111,107]] else[bs [110,111],bs (Lib.itoa c)]
theorem NA (a b:List UInt8):txt [bs a,bs b]=a++32::(b++[10]):=by simp[txt,kl,bs,Lib.join]
theorem NB {X:Nat->Prop}{k d:Nat}{i:List UInt8}{w:az}(h:fO X k d i w)(q:g7 w)(c:Int)(hc:gQ c)(hs:OQ i<=140737488350000):
 M J 56 #[aq k,ak c,Z O0 0 0] w λe w'=>(∃v,e=OV v)/\∃b,fO b k d (i++txt (iD c)) w'/\b9 X w b w':=by
 unfold iD;by_cases h0:c=0
 ·subst h0;rw[aN rfl];have n:=aw w (E #[.string (bs [111,107])] 9)
  have hn:=aO w (E #[.string (bs [111,107])] 9)
  have P:=rC (h.below n) [bs [111,107]] _ 1 (gG.of (oT hn (a4 _) rfl ae)) ae ae ae (by simp[txt,kl,bs,Lib.join];omega)
  have j:M J 22 #[aq k,Z (au (OU (OT w))) 1 1] (bu w (E #[.string (bs [111,107])] 9)) λe w'=>(∃v,e=OV v)/\∃b,fO b k d (i++txt [bs [111,107]]) w'/\b9 X w b w':=P.mono (by
   rintro e w' ⟨f,b,g,l⟩
   exact⟨f,b,g,(b9.of n).trans l⟩)
  go_enter func56,ntmps56;go_wp2_with (go_at_call 22;refine j.mono ?_;rintro e w1 ⟨⟨v,rfl⟩,m,f,g⟩)
  refine a3 (v:=ay #[]) (by simp[results,results56,go_sem]) rfl ⟨⟨_,rfl⟩,m,f,g⟩
 ·rw[aJ h0];have u:=Lib.itoa_length_le c hc.1 hc.2;have j:∀w1,O (OU (OT w)) w w1->M J 22 #[aq k,Z (au (OU (OT w1))) 2 2] (bu w1 (E #[.string (bs [110,111]),.string (bs (Lib.itoa c))] 9)) λe w'=>(∃v,e=OV v)/\∃b,fO b k d (i++txt [bs [110,111],bs (Lib.itoa c)]) w'/\b9 X w b w':=λw1 hb=>by
   have o:=hb.trans ((aw w1 (E #[.string (bs [110,111]),.string (bs (Lib.itoa c))] 9)).mono hb.size)
   refine(rC (h.below o) [bs [110,111],bs (Lib.itoa c)] _ 2 (gG.of (oT (aO w1 (E #[.string (bs [110,111]),.string (bs (Lib.itoa c))] 9)) (a4 _) rfl ac)) ac ac ac (by rw[NA];simp;omega)).mono ?_;rintro e w' ⟨f,b,g,l⟩
   exact⟨f,b,g,(b9.of o).trans l⟩
  go_enter func56,ntmps56;go_wp2_with (go_at_call 54;refine(p3 c hc w q).mono ?_;rintro e w1 ⟨rfl,s⟩)
  have P:=j w1 s;generalize t:bu w1 (E #[.string (bs [110,111]),.string (bs (Lib.itoa c))] 9)=p at P;rw[show bu w1 (E #[.string ⟨#[110,111]⟩,.string ⟨(Lib.itoa c).toArray⟩] 9)=p from t];generalize OU (OT w1)=b1 at*
  go_loopw [6,19] (λwv iv wr=>wr=p/\wv=Z (au b1) 2 2/\iv=ak 0) (λ_ _ _=>0)
  exact⟨rfl,rfl,rfl⟩
  ·
    obtain⟨hrel,rfl,rfl⟩:=hrel;have hrel:=hrel.symm;subst hrel;go_wp2_with (go_at_call 22;refine P.mono ?_;rintro e x ⟨⟨v,rfl⟩,m,f,g⟩)
    go_end0;exact⟨⟨_,rfl⟩,m,f,g⟩
section
variable {wb w1 w w' w2:az}{c:Wc}{t:pZ}{F G X D X':Nat->Prop}{S:cv}{W:ck}{i j k d m:Nat}{out out':List UInt8}{s:Option (Nat×Nat×ck)}
theorem ej.base (h:ej w1 c t F G S W i j w)(hb:OU (OT wb)<=OU (OT w1))(be:O (OU (OT wb)) wb w):ej wb c t F G S W i j w:=
 {h with mH:=aQ hb h.mH,fN:=λb e=>aQ hb (h.fN b e),mI:=λb e=>aQ hb (h.mI b e),be:=be}
theorem ej.tZ (h:ej w1 c t F G S W i j w)(f:Fr X w w')(g:∀b,F b->¬X b)(k:∀b,G b->¬X b)(ht:¬X t.tp)(l:∀b,X b->OU (OT w1)<=b):ej w1 c t F G S W i j w':=
 ⟨(cD c t.hp).fr h.g f (λb d e=>g b d e),(cG t.b7 t.n t.o t.rb).fr h.r f (λb d e=>k b d e),(f.block t.tp (cj h.tw) ht).trans h.tw,h.p0,h.tG,h.mH,h.ok,h.gi,h.rl,h.ap,h.fN,h.mI,h.be.trans (f.below h.be.size l),h.sz⟩
theorem fO.cut (h:fO X k d out w):fO (λb=>X b/\b<OU (OT w)) k d out w:=by obtain⟨p,v,c,g,f,i,j,l⟩:=h.mem;exact⟨⟨h.lo,cj c⟩,p,v,c,g,f,i,j,λb e=>⟨l b e,(cu f b e.symm).2⟩⟩
def NC (wb:az)(D:Nat->Prop)(d m:Nat)(w:az):Option (Nat×Nat×ck)->Prop
 |none=>w.heap[d]?=OR (E #[bq O0] 45 (0,0))
 |some (n,o,W)=>∃c t F G S i,i<=m/\w.heap[d]?=OR (E #[aq t.tp] 45 (0,0))/\ej wb c t F G S W i i w/\(t.n=n/\t.o=o)/\¬F d/\¬G d/\∀b,F b\/G b\/b=t.tp->D b
structure ip (wb:az)(D:Nat->Prop)(d:Nat)(s:Option (Nat×Nat×ck))(m:Nat)(w:az):Prop where
 s:NC wb D d m w s
 jD:D d
 oU:∀b,D b->OU (OT wb)<=b
 hD:∀b,D b->b<OU (OT w)
 be:O (OU (OT wb)) wb w
theorem ip.fr {Y:Nat->Prop}(h:ip wb D d s m w)(f:Fr Y w w')(hy:∀b,Y b->¬D b)(p:∀b,Y b->OU (OT wb)<=b):ip wb D d s m w':=by
 obtain⟨a,b,c,e,g⟩:=h;refine⟨?_,b,c,λb hb=>aL (e b hb) f.size,g.trans (f.below g.size p)⟩
 match s,a with
 |none,a=>exact(f.block d (cj a) (λh=>hy d h b)).trans a
 |some (n,o,W),⟨c,t,F,G,S,i,u,q,v,x,B,N,k⟩=>
  exact⟨c,t,F,G,S,i,u,(f.block d (cj q) (λh=>hy d h b)).trans q,v.tZ f (λb l j=>hy b j (k b (aK l))) (λb l j=>hy b j (k b (aI (aK l)))) (λj=>hy _ j (k _ (aI (aI rfl)))) p,x,B,N,k⟩
theorem ip.more (h:ip wb D d s m w)(f:m<=j):ip wb D d s j w:=by
 obtain⟨a,b,c,e,g⟩:=h;refine⟨?_,b,c,e,g⟩
 match s,a with
 |none,a=>exact a
 |some (n,o,W),⟨c,t,F,G,S,i,k,l⟩=>exact⟨c,t,F,G,S,i,aQ k f,l⟩
structure eO (wb:az)(X D:Nat->Prop)(k d:Nat)(s:Option (Nat×Nat×ck))(m:Nat)(out:List UInt8)(w:az):Prop where
 t:fO X k d out w
 o:ip wb D d s m w
 ap:∀b,X b->¬D b
 lW:∀b,X b->OU (OT wb)<=b
 hX:∀b,X b->b<OU (OT w)
 gl:g7 wb
theorem eO.oV (h:eO wb X D k d s m out w):g7 w:=h.gl.below h.o.be
theorem eO.k0 (h:eO wb X D k d s m out w):V w (av k 0)=OR (aq d)/\k<OU (OT w):=by obtain⟨p,v,hk,_⟩:=h.t.mem;exact⟨by simp[World.cell?,hk],cj hk⟩
def gn (wb:az)(X D:Nat->Prop)(k d:Nat)(s:Option (Nat×Nat×ck))(m:Nat)(out:List UInt8)(w w':az):Prop:=
 ∃X' c,eO wb X' c k d s m out w'/\b9 (λb=>X b\/D b) w (λb=>X' b\/c b) w'
theorem eO.below (h:eO wb X D k d s m out w)(hb:O (OU (OT w)) w w'):eO wb X D k d s m out w':=
 ⟨h.t.below hb,h.o.fr (Fr.of (X:=λ_=>False) hb) (λ_ e=>e.elim) (λ_ e=>e.elim),h.ap,h.lW,λb e=>aL (h.hX b e) hb.size,h.gl⟩
theorem eO.told (h:eO wb X D k d s m out w)(c:fO X' k d out' w')(tn:b9 X w X' w'):gn wb X D k d s m out' w w':=by have f:∀b,X' b/\b<OU (OT w')->_:=λb e=>tn.sub b e.1;refine⟨λb=>X' b/\b<OU (OT w'),D,⟨c.cut,h.o.fr tn.fr h.ap h.lW,λb e hD=>(f b e).elim (λe=>h.ap b e hD) (λe=>by have:=h.o.hD b hD;omega),λb e=>(f b e).elim (h.lW b) (aQ h.o.be.size),λb e=>e.2,h.gl⟩,tn.fr.mono (λb e=>aK e),λb e=>e.elim (λe=>(f b e).imp aK id) (λe=>aK (aI e))⟩
theorem gn.trans {c e:Nat->Prop}{s2:Option _}(h:b9 (λb=>X b\/D b) w (λb=>c b\/e b) w1)(g:gn wb c e k d s2 m out' w1 w'):gn wb X D k d s2 m out' w w':=by obtain⟨X',f,i,j⟩:=g;exact⟨X',f,i,h.trans j⟩
theorem gn.of {s2:Option _}(hb:O (OU (OT w)) w w1)(g:gn wb X D k d s2 m out' w1 w'):gn wb X D k d s2 m out' w w':=gn.trans (b9.of hb) g
theorem eO.ND (h:eO wb X D k d s m out w)(hb:O (OU (OT w)) w w2):eO wb X (λb=>b=d) k d O0 m out (O8 w2 ⟨d,0,O0⟩ (bq O0))/\b9 (λb=>X b\/D b) w (λb=>X b\/b=d) (O8 w2 ⟨d,0,O0⟩ (bq O0)):=by
 have f:Fr (λb=>b=d) w (O8 w2 ⟨d,0,O0⟩ (bq O0)):=(Fr.of hb).set d 0 _ rfl;have j:¬X d:=λe=>h.ap d e h.o.jD;have hs:(O8 w2 ⟨d,0,O0⟩ (bq O0)).heap[d]?=OR (E #[bq O0] 45 (0,0)):=by
  have:∃v,w.heap[d]?=OR (E #[v] 45 (0,0)):=by exact xE
  obtain⟨v,hv⟩:=this
  simp only [World.setCell,bE,if_true,((hb.block d (h.o.hD d h.o.jD)).trans hv),bH];rfl
 refine⟨⟨h.t.fr f (λb e g=>j (g▸e)),⟨hs,rfl,λb e=>by subst e;exact h.o.oU _ h.o.jD,λb e=>by subst e;exact cj hs,h.o.be.trans (f.below h.o.be.size (λb e=>by subst e;exact h.o.oU _ h.o.jD))⟩,λb e g=>j (g▸e),h.lW,λb e=>aL (h.hX b e) f.size,h.gl⟩,f.mono (λb e=>aI (e▸h.o.jD)),λb e=>aK (e.imp id (λe=>by subst e;exact h.o.jD))⟩
theorem eO.made (h:eO wb X D k d s m out w)(hb:O (OU (OT w)) w w1)(hn:ej w1 c t F G S W 0 0 w2)(u:Fr (λb=>OU (OT w)<=b/\b<OU (OT w1)) w2 w'):eO wb X (λb=>b=d\/F b\/G b\/b=t.tp) k d (OR (t.n,t.o,W)) m out (O8 w' ⟨d,0,O0⟩ (bq (OR ⟨t.tp,0,O0⟩)))/\b9 (λb=>X b\/D b) w (λb=>X b\/b=d\/F b\/G b\/b=t.tp) (O8 w' ⟨d,0,O0⟩ (bq (OR ⟨t.tp,0,O0⟩))):=by
 have l:=hb.trans (hn.be.mono hb.size)
 have j:=l.trans (u.below l.size (λb e=>e.1))
 have hm:=(hn.base hb.size l).tZ u (λb e g=>by have:=hn.fN b e;omega) (λb e g=>by have:=hn.mI b e;omega) (λg=>by have:=hn.mH;omega) (λb e=>e.1)
 have f:Fr (λb=>b=d) w (O8 w' ⟨d,0,O0⟩ (bq (OR ⟨t.tp,0,O0⟩))):=(Fr.of j).set d 0 _ rfl;have x:¬X d:=λe=>h.ap d e h.o.jD;have ld:=h.o.hD d h.o.jD;have hs:(O8 w' ⟨d,0,O0⟩ (bq (OR ⟨t.tp,0,O0⟩))).heap[d]?=OR (E #[aq t.tp] 45 (0,0)):=by
  have:∃v,w.heap[d]?=OR (E #[v] 45 (0,0)):=by exact xE
  obtain⟨v,hv⟩:=this
  simp only [World.setCell,bE,if_true,((j.block d ld).trans hv),bH];rfl
 have lw:=aL ld hb.size;have p:∀b,F b\/G b\/b=t.tp->OU (OT w1)<=b:=λb e=>by
  rcases e with e|e|e
  ·exact hn.fN b e
  ·exact hn.mI b e
  ·rw[e];exact hn.mH
 have ab:OU (OT (O8 w' ⟨d,0,O0⟩ (bq (OR ⟨t.tp,0,O0⟩))))=OU (OT w'):=by simp[World.setCell]
 have ad:∀b,F b\/G b\/b=t.tp->b<OU (OT w'):=λb e=>by
  rcases e with e|e|e
  ·exact(cD c t.hp).lt hm.g b e
  ·exact(cG t.b7 t.n t.o t.rb).lt hm.r b e
  ·rw[e];exact cj hm.tw
 have B:¬F d:=λe=>by have:=hn.fN d e;omega
 have N:¬G d:=λe=>by have:=hn.mI d e;omega
 have q:=h.o.oU _ h.o.jD;refine⟨⟨h.t.fr f (λb e g=>x (g▸e)),⟨⟨c,t,F,G,S,0,a4 _,hs,(hm.base h.o.be.size (h.o.be.trans (j.mono h.o.be.size))).tZ ((Fr.refl (λb=>b=d) w').set d 0 _ rfl) (λb e g=>B (g▸e)) (λb e g=>N (g▸e)) (λg=>by have:=hn.mH;omega) (λb e=>by rw[e];exact q),⟨rfl,rfl⟩,B,N,λb e=>aI e⟩,aK rfl,λb e=>?_,λb e=>?_,h.o.be.trans (f.below h.o.be.size (λb e=>by rw[e];exact q))⟩,λb e g=>?_,h.lW,λb e=>aL (h.hX b e) f.size,h.gl⟩,f.mono (λb e=>aI (e▸h.o.jD)),λb e=>?_⟩
 ·rcases e with e|e
  ·rw[e];exact q
  ·exact aQ (aQ h.o.be.size hb.size) (p b e)
 ·rw[ab];rcases e with e|e
  ·rw[e];exact aL ld j.size
  ·exact ad b e
 ·rcases g with g|g
  ·exact x (g▸e)
  ·have:=p b g;have:=h.hX b e;have:=hb.size;omega
 ·rcases e with e|e|e
  ·exact aK (aK e)
  ·exact aK (aI (e▸h.o.jD))
  ·exact aI (aQ hb.size (p b e))
theorem eO.turn {j l:Nat->Prop}{o:cv}{p:ck}(h:eO wb X D k d s m out w)(hd:w.heap[d]?=OR (E #[aq t.tp] 45 (0,0)))(hi:i<=m)(q:¬F d)(u:¬G d)(n:∀b,F b\/G b\/b=t.tp->D b)(hn:ej wb c t j l o p (i+1) (i+1) w')(f:Fr (λb=>F b\/G b\/b=t.tp) w w')(v:∀b,j b->F b\/OU (OT w)<=b)(x:∀b,l b->G b\/OU (OT w)<=b)(B:d≠t.tp):eO wb X (λb=>b=d\/j b\/l b\/b=t.tp) k d (OR (t.n,t.o,p)) (m+1) out w'/\b9 (λb=>X b\/D b) w (λb=>X b\/b=d\/j b\/l b\/b=t.tp) w':=by
 have ld:=h.o.hD d h.o.jD;have old:∀b,j b\/l b\/b=t.tp->D b\/OU (OT w)<=b:=λb e=>by
  rcases e with e|e|e
  ·exact(v b e).imp (λe=>n b (aK e)) id
  ·exact(x b e).imp (λe=>n b (aI (aK e))) id
  ·exact aK (n b (aI (aI e)))
 have N:∀b,j b\/l b\/b=t.tp->b<OU (OT w'):=λb e=>by
  rcases e with e|e|e
  ·exact(cD c t.hp).lt hn.g b e
  ·exact(cG t.b7 t.n t.o t.rb).lt hn.r b e
  ·rw[e];exact cj hn.tw
 have nd:¬(F d\/G d\/d=t.tp):=λe=>by
  rcases e with e|e|e
  ·exact q e
  ·exact u e
  ·exact B e
 refine⟨⟨h.t.fr f (λb e g=>h.ap b e (n b g)),⟨⟨c,t,j,l,o,i+1,aa,(f.block d ld nd).trans hd,hn,⟨rfl,rfl⟩,λe=>(v d e).elim q (λe=>by omega),λe=>(x d e).elim u (λe=>by omega),λb e=>aI e⟩,aK rfl,λb e=>?_,λb e=>?_,hn.be⟩,λb e g=>?_,h.lW,λb e=>aL (h.hX b e) f.size,h.gl⟩,f.mono (λb e=>aI (n b e)),λb e=>?_⟩
 ·rcases e with e|e
  ·rw[e];exact h.o.oU _ h.o.jD
  ·exact(old b e).elim (h.o.oU b) (aQ h.o.be.size)
 ·rcases e with e|e
  ·rw[e];exact aL ld f.size
  ·exact N b e
 ·rcases g with g|g
  ·exact h.ap b e (g▸h.o.jD)
  ·rcases old b g with g|g
   ·exact h.ap b e g
   ·have:=h.hX b e;omega
 ·rcases e with e|e|e
  ·exact aK (aK e)
  ·exact aK (aI (e▸h.o.jD))
  ·exact(old b e).imp aI id
theorem eO.fr {Y:Nat->Prop}(h:eO wb X D k d s m out w)(f:Fr Y w w')(c:∀b,X b->¬Y b)(hy:∀b,Y b->¬D b)(g:∀b,Y b->OU (OT wb)<=b):eO wb X D k d s m out w':=
 ⟨h.t.fr f c,h.o.fr f hy g,h.ap,h.lW,λb e=>aL (h.hX b e) f.size,h.gl⟩
theorem eO.more (h:eO wb X D k d s m out w)(b:m<=j):eO wb X D k d s j out w:={h with o:=h.o.more b}
end
def gb (v:Int×Int):ByteArray:=bs (rD v)
theorem Dw {X:Nat->Prop}{k d:Nat}{s:List UInt8}{w0 w:az}(h:fO X k d s w0)(ag:g7 w0)(hb:O (OU (OT w0)) w0 w)(L:List ByteArray)(ai:0<OQ L)(al:OQ L<=10)(g cp:Nat)(hrow:aC w (OU (OT w0)) 9 1 (Z (au g) (OQ L) cp) (OQ L) (L.map Value.string))(f:List (Int×Int))(am:Option bB)(bb:Nat)(an:dQ w0 am f)(hk:∀v∈f,gQ v.2)(hn:OQ f<=20000)(hs:OQ s+OQ (txt (L++f.map gb))<=140737488355328):
 M J 58 #[aq k,Z am (OQ f) bb,Z (au g) (OQ L) cp] w λe w'=>(∃v,e=OV v)/\∃o,fO o k d (s++txt (L++f.map gb)) w'/\b9 X w0 o w':=by
 obtain⟨bd,be,bg,bi,bl⟩:=bM Dj;have ao:∀wr l r T,T=L++f.map gb->O (OU (OT w0)) w0 wr->aC wr (OU (OT w0)) 9 1 (Z (au r) (OQ T) l) (OQ T) (T.map Value.string)->M J 22 #[aq k,Z (au r) (OQ T) l] wr λe w'=>(∃v,e=OV v)/\∃o,fO o k d (s++txt (L++f.map gb)) w'/\b9 X w0 o w':=λwr l r T S ap hr=>by
  have hc:OQ T<=l:=by
   rcases hr.2 with⟨e,_⟩|⟨g2,c2,b8,e,_,_,hc,_⟩
   ·cases e
   ·cases e;exact hc
  rw[<-S] at hs⊢;refine(rC (h.below ap) T _ l (gG.of hr) (by rw[S,aX];omega) hc (by rw[S];simp;omega) hs).mono ?_;rintro e w' ⟨a,o,b,c⟩
  exact⟨a,o,b,(b9.of ap).trans c⟩
 have bn:=cg ao;have bo:=cg hb;have bp:=cg hrow;have br:=cg an;have bs:=cg hk;have bt:=cg ag;clear ao hb hrow an hk ag h hs;go_enter func58,ntmps58;go_wp2_with fail
 go_loopw [2,10] (λwv iv wr=>∃(i r l:Nat)(T:List ByteArray),i<=OQ f/\iv=ak i/\wv=Z (au r) (OQ T) l/\aA (T=L++(f.take i).map gb)/\aA (aC wr (OU (OT w0)) 9 1 (Z (au r) (OQ T) l) (OQ T) (T.map Value.string))/\aA (O (OU (OT w0)) w0 wr)) (λ_ iv _=>OQ f-K (bG iv))
 exact⟨0,g,cp,L,a4 _,rfl,rfl,by show L=_;simp,bp,bo⟩
 ·
   obtain⟨i,r,l,T,hi,rfl,rfl,t,W,p⟩:=hrel;by_cases B:i<OQ f
   ·obtain⟨ca,cb,bx,l0,hc⟩:=br.o aa;obtain⟨F,y1⟩:=hc i B;have F:=(p.o.cell l0).trans F;have y1:=(p.o.cell l0).trans y1;subst bx;have ar:=bs.o (OZ f i (0,0)) (by rw[aM,aP B];exact a_ B)
    have b0:=cg (show L++(f.take (i+1)).map gb=T++[gb (OZ f i (0,0))] by rw[t.o,va,aM,aP B,bV,<-bf];rfl)
    have cc:OQ T<=20010:=by have:=t.o;rw[this,aX,a5,List.length_take];omega
    generalize OZ f i (0,0)=x at*;obtain⟨m,n⟩:=x;dsimp only at F y1 ar;have aB:=aw wr (E #[U OW m,U OW n] 139)
    have ab:=cg (p.o.trans (aB.mono p.o.size))
    have aF:=cg (gq W.o (E #[U OW m,U OW n] 139))
    have P:=Ny m n ar _ (bt.o.below ab.o)
    have z0:V (bu wr (E #[U OW m,U OW n] 139)) (av (OU (OT wr)) 0)=OR (ak m):=jX (aO _ _) rfl;have cd:V (bu wr (E #[U OW m,U OW n] 139)) (av (OU (OT wr)) 1)=OR (ak n):=jX (aO _ _) rfl;clear hc aB W p t
    go_upto_region 3 with fail
    generalize bu wr (E #[U OW m,U OW n] 139)=b1 at*;generalize OU (OT wr)=ce at*;clear F y1;go_wp2_with (first|(at_builtin;refine wpList_append_lies _ rfl _ _ 22 rfl (OU (OT w0)) 9 bd (.string .empty) 1 16 underlying22 be bg bi bl rfl ae (Z (OR ⟨r,0,O0⟩) (OQ T) l) (OQ T) (T.map Value.string) rfl (gq N.o.1 _) ⟨OU (OT ad),0,O0⟩ 1 1 [.string (gb (m,n))] rfl rfl ?_ ?_ ae (by unfold bL;omega) aa (by simp;omega) _ rfl ?_;(intro j u q;match j,q with|0,q=>(cases q;simp[Addr.add];rfl)|k+1,q=>(simp at q));(intro u aR;simp at aR;subst aR;rfl);intro aV a0 b2 b3 b4 cf ch)|(go_at_call 91;refine P.mono ?_;rintro e ad ⟨rfl,a1⟩;have N:=cU (cK aF.o (λk e=>a1.block k (cu aF.o k e).2)) (ab.o.trans (a1.mono ab.o.size));have b5:=N.o.2.size;have b6:=aw ad (E #[.string (gb (m,n))] 9)))
    have a2:aA (aC b2 (OU (OT w0)) 9 1 (Z (au aV) (OQ T+1) a0) (OQ T+1) ((T++[gb (m,n)]).map Value.string)/\_):=⟨by rw[bV];exact b3,(N.o.2.trans (b6.mono b5)).grown b4 (by simp;omega) (λb e=>(cu N.o.1 b e.symm).1)⟩
    go_roundw;exact⟨i+1,aV,a0,T++[gb (m,n)],aa,aj,by rw[aX];rfl,b0.o.symm,by rw[aX];exact a2.o.1,a2.o.2⟩
    simp[bG];omega
   ·obtain rfl:i=OQ f:=aa;have P:=bn.o _ l r T (by have:=t.o;rwa [ba] at this) p.o W.o;go_wp2_with (go_at_call 22;refine P.mono ?_;rintro e b1 ⟨⟨v,rfl⟩,b7,ai,al⟩)
    go_end0;exact⟨⟨_,rfl⟩,b7,ai,al⟩
def g8 (k:Int):List UInt8:=if k<0\/17<=k then[] else stepW (K k)
theorem xK (k:Int)(w:az)(b:g7 w):M J 12 #[ak k] w λe w'=>e=OV (.string (bs (g8 k)))/\w=w':=by
 unfold g8;by_cases h0:k<0
 ·rw[aN (aK h0)];go_enter func12,ntmps12;go_wp2;go_ret;exact⟨rfl,rfl⟩
 ·by_cases d:17<=k
  ·rw[aN (aI d)];go_enter func12,ntmps12;go_wp2;go_ret;exact⟨rfl,rfl⟩
  ·obtain⟨n,rfl⟩:=Int.eq_ofNat_of_zero_le (show 0<=k by omega)
   have c:=b.Ng n aa;go_wp2;go_ret;exact⟨rfl,rfl⟩
def p4 (s:List UInt8):Nat->Nat->Int
 |0,_=>0
 |n+1,i=>if stepW i=s then i else p4 s n (i+1)
def gd (s:List UInt8):Int:=p4 s 16 1
theorem xL (s:ByteArray)(w:az)(d:g7 w):M J 62 #[.string s] w λe w'=>e=OV (ay #[ak (gd s.data.toList),bA (gd s.data.toList !=0)])/\w=w':=by
 go_enter func62,ntmps62;go_wp2_with fail
 go_loopw [4] (λiv wr=>∃i:Nat,iv=ak i/\1<=i/\i<=17/\aA (gd s.data.toList=p4 s.data.toList (17-i) i)/\w=wr) (λiv _=>17-K (bG iv))
 exact⟨1,rfl,ae,ae,rfl,rfl⟩
 ·
   obtain⟨i,rfl,g,j,b,rfl⟩:=hrel;by_cases hi:i<=16
   ·have P:=xK i w (cg d).o;rw[show g8 i=stepW i by unfold g8;rw[aJ aa];rfl] at P;have c:=cg (show p4 s.data.toList (17-i) i=if stepW i=s.data.toList then(i:Int) else p4 s.data.toList (16-i) (i+1) by rw[show 17-i=(16-i)+1 by omega];rfl)
    by_cases he:stepW i=s.data.toList
    ·have hB:((bs (stepW i)).toList==s.toList)=C:=by rw[Lib.toList_data,Lib.toList_data,<-he];simp[bs]
     have f:=cg (show gd s.data.toList=i by rw[b.o,c.o,aN he])
     clear he;go_wp2_with (go_at_call 12;refine P.mono ?_;rintro e w1 ⟨rfl,rfl⟩)
     go_ret2;rw[f.o];exact⟨by simp;omega,rfl⟩
    ·have hB:((bs (stepW i)).toList==s.toList)=O4:=by rw[Lib.toList_data,Lib.toList_data];simpa[bs] using he
     go_wp2_with (go_at_call 12;refine P.mono ?_;rintro e w1 ⟨rfl,rfl⟩)
     go_roundw;exact⟨i+1,aj,aa,aa,(cg (show gd s.data.toList=p4 s.data.toList _ (i+1) by rw[b.o,c.o,aJ he,show 17-(i+1)=16-i by omega])),trivial⟩
     simp[bG];omega
   ·obtain rfl:i=17:=aa;go_wp2;go_ret2;rw[(cg (show gd s.data.toList=0 from b.o)).o];exact⟨rfl,rfl⟩
def t_ (c:Bool)(f:a7)(b:List a7):List Value:=if c=C then b++[f] else b
structure p5 (base sb:Nat)(Dy:List a7)(w:az):Prop where
 lo:base<=sb
 mem:∃v,w.heap[sb]?=OR (E #[v] 165 (0,0))/\aC w base 168 1 v (OQ Dy) Dy/\O9 v≠OR sb
theorem NE:(prog.info? 168).map (λi=>(i.zero,i.size,i.bytes))=OR (OR .nilFunc,1,8):=ah
theorem NF {base c:Nat}{d:List a7}{w:az}(h:p5 base c d w)(hB:base<=OU (OT w))(hl:OQ d<=100)(n:Bool)(f:Nat)(bx:Nat):
 M J 118 #[bA n,.func (.func f) #[] #[aq bx],aq c] w λe w'=>(∃v,e=OV v)/\p5 base c (t_ n (.func (.func f) #[] #[aq bx]) d) w'/\Fr (λb=>base<=b) w w':=by
 obtain⟨F,hi,N,S,W⟩:=bM NE;obtain⟨v,hk,hrow,ab⟩:=h.mem;obtain⟨ao,p,cap,rfl⟩:=xJ hrow;have c0:V w (av c 0)=OR (Z ao p cap):=jX hk rfl;have H:=ge h.lo ab hB;cases n
 ·go_enter func118,ntmps118;go_wp2_with fail;go_end0;exact⟨⟨_,rfl⟩,h,Fr.refl _ _⟩
 ·have q:=aw w (E #[.func (.func f) #[] #[bq (OR ⟨bx,0,O0⟩)]] 168)
  have l:=cU ((q.block c (cj hk)).trans hk) (gq hrow (E #[.func (.func f) #[] #[bq (OR ⟨bx,0,O0⟩)]] 168))
  go_enter func118,ntmps118;go_wp2_with (at_builtin;refine wpList_append_lies _ rfl _ _ 165 rfl base 168 F .nilFunc 1 8 underlying165 hi N S W rfl ae _ (OQ d) d rfl l.o.2 _ 1 1 [.func (.func f) #[] #[aq bx]] rfl rfl ?_ ?_ ae (by unfold bL;omega) aa (by simp;omega) _ rfl ?_;(intro j u i;match j,i with|0,i=>(cases i;simp[Addr.add])|k+1,i=>(simp at i));(intro u s;simp at s;subst s;rfl);intro ad ag o t x ai al;have m:=(x.block c (cj l.o.1) (λe=>H.o.2.1 e.symm)).trans l.o.1;have am:V o (av c 0)=OR (Z ao p cap):=jX m rfl;have an:bF o (av c 0)=O4:=(by simp[World.frozen?,m]))
  go_end0;have B:O9 (Value.slice (au ad) (OQ d+1) ag)≠OR c:=by
   rcases t.2 with⟨e,_⟩|⟨g,c2,ap,e,_,hg,_⟩
   ·cases e
   ·cases e;intro e;cases e;rw[m] at hg;exact absurd (kg hg) ac
  refine⟨⟨_,rfl⟩,⟨H.o.1,_,by simp only [World.setCell,bE,if_true,m,bH];simp,?_,B⟩,?_⟩
  ·unfold t_;rw[aN rfl,aX];exact iq t ((Fr.refl (λb=>b=c) o).set c 0 _ rfl) (λb e hb=>B (e.symm.trans (congrArg OR hb)))
  ·exact(((Fr.of q).grown x (λb e=>aK (cu l.o.2 b e.symm).1)).set c 0 _ H.o.1)
def km (bx:Nat)(i:Nat):Value:=.func (.func (match i with|0=>120|1=>121|2=>122|3=>123|_=>124)) #[] #[aq bx]
def eX (b:Bool)(i:Nat)(l:List Nat):List Nat:=if b=C then l++[i] else l
theorem NG (bx:Nat)(b:Bool)(i:Nat)(l:List Nat):t_ b (km bx i) (l.map (km bx))=(eX b i l).map (km bx):=by unfold t_ eX;cases b<;>simp
def slt (k:Int):List Nat:=eX (k==1||k==5) 4 (eX (bits .and OW (cS k) 4!=0) 3 (eX (k==11||k==12) 2 (eX (bits .and OW (cS k) 2!=0) 1 (eX (bits .and OW (cS k) 1!=0) 0 []))))
theorem m8 (b:Bool)(i:Nat)(l:List Nat):OQ (eX b i l)<=OQ l+1:=by unfold eX;split<;>simp
theorem p5.eC {base b:Nat}{c d:List a7}{w:az}(h:p5 base b c w)(e:c=d):p5 base b d w:=e▸h
theorem NH {w:az}{b c n m:Nat}{e:bI}{v:a7}{l:List a7}(h:aC w b e m v n l)(hb:c<=b):aC w c e m v n l:=by
 refine⟨h.1,?_⟩
 rcases h.2 with h|⟨g,cap,d,f,i,j⟩
 ·exact aK h
 ·exact aI ⟨g,cap,d,f,aQ hb i,j⟩
structure na (w:az)(xb:Nat)(k R A B I n:Int)(bx:Nat)(L:List Nat)(w1:az):Prop where
 x:w1.heap[xb]?=OR (cA k R A B I n)
 b:w1.heap[bx]?=OR (E #[aq xb] 167 (0,0))
 lx:xb<bx
 s:p5 (bx+1) (bx+1) (L.map (km bx)) w1
 e:bx=OU (OT w)
 be:O (OU (OT w)) w w1
section
variable {w w1:az}{xb bx:Nat}{k R A B I n:Int}{L:List Nat}
theorem na.cells (h:na w xb k R A B I n bx L w1):V w1 (av xb 0)=OR (ak k)/\V w1 (av bx 0)=OR (aq xb):=⟨(dZ h.x).1,jX h.b rfl⟩
theorem na.add (h:na w xb k R A B I n bx L w1)(hl:OQ L<=10)(c:Bool)(i:Nat):M J 118 #[bA c,km bx i,aq (bx+1)] w1 λe w'=>(∃v,e=OV v)/\na w xb k R A B I n bx (eX c i L) w':=by
 have hs:=cj h.b;refine(NF h.s aa (by simp;omega) c _ bx).mono ?_;rintro e w' ⟨f,g,d⟩
 refine⟨f,(d.block xb (cj h.x) (by have:=h.lx;omega)).trans h.x,(d.block bx hs aa).trans h.b,h.lx,g.eC (NG bx c i L),h.e,?_⟩
 exact h.be.trans (d.below h.be.size (λb hb=>by have:=h.e;omega))
end
theorem NI (c:Nat)(k R A B I n:Int)(w:az)(j:w.heap[c]?=OR (cA k R A B I n)):
 M J 92 #[aq c] w λe w'=>∃v bx,e=OV v/\aC w' (OU (OT w)) 168 1 v (OQ (slt k)) ((slt k).map (km bx))/\OU (OT w)<=bx/\w'.heap[bx]?=OR (E #[aq c] 167 (0,0))/\O (OU (OT w)) w w':=by
 have l:=cj j;have W:=aw w (E #[bq (OR ⟨c,0,O0⟩)] 167)
 have m:=W.alloc ac (E #[Z O0 0 0] 165)
 have o:na w c k R A B I n (OU (OT w)) [] (bu (bu w (E #[bq (OR ⟨c,0,O0⟩)] 167)) (E #[Z O0 0 0] 165)):=by
  refine⟨(m.block c l).trans j,?_,l,⟨aG _,Z O0 0 0,by have:=aO (bu w (E #[bq (OR ⟨c,0,O0⟩)] 167)) (E #[Z O0 0 0] 165);rwa [bh] at this,a9 _ _ _ _,by simp[Value.ownBlock]⟩,rfl,m⟩
  exact vi
 obtain⟨c0,_⟩:=o.cells;have ab:aA (∀{w':az},na w c k R A B I n (OU (OT w)) (slt k) w'->∀v,w'.heap[OU (OT w)+1]?=OR (E #[v] 165 (0,0))->aC w' (OU (OT w)) 168 1 v (OQ (slt k)) ((slt k).map (km (OU (OT w))))/\OU (OT w)<=OU (OT w)/\w'.heap[OU (OT w)]?=OR (E #[aq c] 167 (0,0))/\O (OU (OT w)) w w'):=λ{w'} S v hv=>by obtain⟨v2,ad,ag,_⟩:=S.s.mem;rw[hv] at ad;cases ad;rw[a5] at ag;exact⟨NH ag aa,aG _,S.b,S.be⟩
 have an:OQ (slt k)<=5:=by exact Dg
 have d:∀{w1 L}(p b:Bool)(i:Nat),na w c k R A B I n (OU (OT w)) L w1->OQ L<=10->b=p->M J 118 #[bA b,km (OU (OT w)) i,aq (OU (OT w)+1)] w1 λe w'=>(∃v,e=OV v)/\na w c k R A B I n (OU (OT w)) (eX p i L) w':=λp b i S hl e=>by subst e;exact S.add hl b i
 clear j l W;have l1:=m8 (bits .and OW (cS k) 1!=0) 0 [];have l2:=m8 (bits .and OW (cS k) 2!=0) 1 (eX (bits .and OW (cS k) 1!=0) 0 [])
 have l3:=m8 (k==11||k==12) 2 (eX (bits .and OW (cS k) 2!=0) 1 (eX (bits .and OW (cS k) 1!=0) 0 []))
 have l4:=m8 (bits .and OW (cS k) 4!=0) 3 (eX (k==11||k==12) 2 (eX (bits .and OW (cS k) 2!=0) 1 (eX (bits .and OW (cS k) 1!=0) 0 [])))
 simp only [vw] at l1;have f:=cU (show OQ (eX (bits .and OW (cS k) 1!=0) 0 [])<=10/\OQ (eX (bits .and OW (cS k) 2!=0) 1 (eX (bits .and OW (cS k) 1!=0) 0 []))<=10 by omega) (show OQ (eX (k==11||k==12) 2 (eX (bits .and OW (cS k) 2!=0) 1 (eX (bits .and OW (cS k) 1!=0) 0 [])))<=10/\OQ (eX (bits .and OW (cS k) 4!=0) 3 (eX (k==11||k==12) 2 (eX (bits .and OW (cS k) 2!=0) 1 (eX (bits .and OW (cS k) 1!=0) 0 []))))<=10 by omega)
 clear l1 l2 l3 l4 an;have q:aA (slt k=eX (k==1||k==5) 4 (eX (bits .and OW (cS k) 4!=0) 3 (eX (k==11||k==12) 2 (eX (bits .and OW (cS k) 2!=0) 1 (eX (bits .and OW (cS k) 1!=0) 0 []))))):=rfl;obtain⟨s,t⟩:∃s,s=(k==11||k==12):=⟨_,rfl⟩
 obtain⟨u,x⟩:∃u,u=(k==1||k==5):=⟨_,rfl⟩
 rw[<-t] at f q;rw[<-x] at q;have ap:=cg t;have ar:=cg x;clear t x;cases b11:(k==11)<;>cases b1:(k==1)
 all_goals
  go_enter func92,ntmps92
  go_upto_region 4 with(go_at_call 119;refine(z4 k _).mono ?_;rintro e w1 ⟨rfl,rfl⟩)
  generalize bu (bu w (E #[bq (OR ⟨c,0,O0⟩)] 167)) (E #[Z O0 0 0] 165)=w1 at*;clear c0 m
  go_upto_region 5 with(go_at_call 118;refine(d (bits .and OW (cS k) 1!=0) _ 0 o ac rfl).mono ?_;rintro e aF ⟨⟨v,rfl⟩,ai⟩)
  clear o
  go_upto_region 6 with(go_at_call 118;refine(d (bits .and OW (cS k) 2!=0) _ 1 ai f.o.1.1 rfl).mono ?_;rintro e aR ⟨⟨aV,rfl⟩,F⟩)
  obtain⟨c0,c1⟩:=F.cells;clear ai
  go_upto_region 7 with(go_at_call 118;refine(d s _ 2 F f.o.1.2 (by rw[ap.o];simp_all)).mono ?_;rintro e a0 ⟨⟨a1,rfl⟩,al⟩)
  clear F c0 c1
  go_upto_region 8 with(go_at_call 118;refine(d (bits .and OW (cS k) 4!=0) _ 3 al f.o.2.1 rfl).mono ?_;rintro e a2 ⟨⟨bb,rfl⟩,N⟩)
  obtain⟨c0,c1⟩:=N.cells;clear al
  go_upto_region 9 with(go_at_call 118;refine(d u _ 4 N f.o.2.2 (by rw[ar.o];simp_all)).mono ?_;rintro e aB ⟨⟨bd,rfl⟩,g⟩)
  clear N c0 c1;rw[<-q.o] at g;obtain⟨am,hz,_⟩:=g.s.mem;have be:V aB (av (OU (OT w)+1) 0)=OR am:=jX hz rfl;obtain⟨ao,bg,cap,rfl⟩:=xJ (ab.o g am hz).1;have R:=ab.o g _ hz;clear g hz;go_wp2_with fail;go_ret;exact⟨_,_,rfl,R.1,R.2.1,R.2.2.1,R.2.2.2⟩
def m9 (x:S6)(i:Nat)(m:Int):S6:=
 match i with
 |0=>{x with R:=m}
 |1=>{x with A:=m}
 |2=>{x with I:=m}
 |3=>{x with B:=m}
 |_=>{x with n:=m}
def h8 (x:S6):Obj:=cA x.k x.R x.A x.B x.I x.n
theorem NJ {c bx:Nat}{x:S6}{w:az}(hx:w.heap[c]?=OR (h8 x))(hb:w.heap[bx]?=OR (E #[aq c] 167 (0,0)))(m:Int):
 M J 120 #[ak m,aq bx] w λe w'=>(∃v,e=OV v)/\w'.heap[c]?=OR (h8 (m9 x 0 m))/\Fr (λb=>b=c) w w':=by
 have c0:V w (av bx 0)=OR (aq c):=jX hb rfl;obtain⟨z0,d,f,g,i,j⟩:=dZ hx;have k:bF w (av c 1)=O4:=by simp[World.frozen?,hx,h8,cA]
 exact rz
theorem NK {c bx:Nat}{x:S6}{w:az}(hx:w.heap[c]?=OR (h8 x))(hb:w.heap[bx]?=OR (E #[aq c] 167 (0,0)))(m:Int):
 M J 121 #[ak m,aq bx] w λe w'=>(∃v,e=OV v)/\w'.heap[c]?=OR (h8 (m9 x 1 m))/\Fr (λb=>b=c) w w':=by
 have c0:V w (av bx 0)=OR (aq c):=jX hb rfl;obtain⟨z0,d,f,g,i,j⟩:=dZ hx;have k:bF w (av c 2)=O4:=by simp[World.frozen?,hx,h8,cA]
 exact rz
theorem NL {c bx:Nat}{x:S6}{w:az}(hx:w.heap[c]?=OR (h8 x))(hb:w.heap[bx]?=OR (E #[aq c] 167 (0,0)))(m:Int):
 M J 122 #[ak m,aq bx] w λe w'=>(∃v,e=OV v)/\w'.heap[c]?=OR (h8 (m9 x 2 m))/\Fr (λb=>b=c) w w':=by
 have c0:V w (av bx 0)=OR (aq c):=jX hb rfl;obtain⟨z0,d,f,g,i,j⟩:=dZ hx;have k:bF w (av c 4)=O4:=by simp[World.frozen?,hx,h8,cA]
 exact rz
theorem NM {c bx:Nat}{x:S6}{w:az}(hx:w.heap[c]?=OR (h8 x))(hb:w.heap[bx]?=OR (E #[aq c] 167 (0,0)))(m:Int):
 M J 123 #[ak m,aq bx] w λe w'=>(∃v,e=OV v)/\w'.heap[c]?=OR (h8 (m9 x 3 m))/\Fr (λb=>b=c) w w':=by
 have c0:V w (av bx 0)=OR (aq c):=jX hb rfl;obtain⟨z0,d,f,g,i,j⟩:=dZ hx;have k:bF w (av c 3)=O4:=by simp[World.frozen?,hx,h8,cA]
 exact rz
theorem NN {c bx:Nat}{x:S6}{w:az}(hx:w.heap[c]?=OR (h8 x))(hb:w.heap[bx]?=OR (E #[aq c] 167 (0,0)))(m:Int):
 M J 124 #[ak m,aq bx] w λe w'=>(∃v,e=OV v)/\w'.heap[c]?=OR (h8 (m9 x 4 m))/\Fr (λb=>b=c) w w':=by
 have c0:V w (av bx 0)=OR (aq c):=jX hb rfl;obtain⟨z0,d,f,g,i,j⟩:=dZ hx;have k:bF w (av c 5)=O4:=by simp[World.frozen?,hx,h8,cA]
 exact rz
end Go.Proofs.YtjckpdepffejnaaGreatDoor
