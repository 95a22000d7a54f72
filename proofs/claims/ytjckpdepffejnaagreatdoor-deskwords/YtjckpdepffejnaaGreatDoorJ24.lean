import Derived.Test.YtjckpdepffejnaaGreatDoorJ23
import Derived.Test.YtjckpdepffejnaaGreatDoorShf
import Derived.Lib.ParseIntBTie
import Derived.Laws.Externs
import Derived.Lib.ItoaLen
open Array renaming getElem?_modify->bE,size->OK
open Bool renaming false->OU,true->C
open Go renaming Addr->bB,Calls->M,TypeId->bI,Value->a7,info_parts->bM,maxLen->bL
open Go.Ending renaming returned->OL
open Go.IntKind renaming i64->OM
open Go.Obj renaming cells->E
open Go.Proofs.Tryz renaming prog->O
open Go.RowKit renaming Below->J,intOf->bG
open Go.Value renaming bool->bA,int->OP,ownBlock->OY,pointer->bq,slice->Z,tuple->ay
open Go.World renaming alloc->bu,cell?->V,frozen?->bF,heap->OJ,ownsRow->aC,setCell->OZ
open Int renaming toNat->K
open List renaming getD->U,length->OG,length_nil->yB,map_append->bU,mem_append->bw,mem_singleton->bN,take_add_one->uc
open Option renaming map_eq_some_iff->Cm,map_some->bH,none->OQ,some->OH
open Option.some renaming inj->j3
namespace Go.Proofs.YtjckpdepffejnaaGreatDoor
set_option maxRecDepth 100000
set_option maxHeartbeats 4000000
open Tryz
open Go.RowKit W Kp ch
theorem C_ {P:Prop}(h:P:=by
 unfold slt;have l1:=m7 (bits .and .i64 (cS k) 1!=0) 0 [];have l2:=m7 (bits .and .i64 (cS k) 2!=0) 1 (eW (bits .and .i64 (cS k) 1!=0) 0 [])
 have l3:=m7 (k==11||k==12) 2 (eW (bits .and .i64 (cS k) 2!=0) 1 (eW (bits .and .i64 (cS k) 1!=0) 0 []))
 have l4:=m7 (bits .and .i64 (cS k) 4!=0) 3 (eW (k==11||k==12) 2 (eW (bits .and .i64 (cS k) 2!=0) 1 (eW (bits .and .i64 (cS k) 1!=0) 0 [])))
 have OD:=m7 (k==1||k==5) 4 (eW (bits .and .i64 (cS k) 4!=0) 3 (eW (k==11||k==12) 2 (eW (bits .and .i64 (cS k) 2!=0) 1 (eW (bits .and .i64 (cS k) 1!=0) 0 []))))
 simp only [List.length_nil] at l1;omega):P:=h
theorem rj {P:Prop}(h:P:=by go_wp2_with fail;go_end0;exact⟨⟨_,rfl⟩,by simp only [World.setCell,Array.getElem?_modify,if_true,hx,Option.map_some];simp[hY,cA,m8],(Fr.refl _ w).set _ _ _ rfl⟩):P:=h
theorem xz {P:Prop}(h:P:=by
 have:=h.o.s
 match s,this with
 |none,a=>exact⟨_,a⟩
 |some (n,o,W),⟨c,t,F,G,S,i,p1,p2,_⟩=>exact⟨_,p2⟩):P:=h
theorem rk {P:Prop}(h:P:=by go_enter func60,ntmps60;go_wp2;go_ret;exact⟨rfl,rfl⟩):P:=h
theorem xA {P:Prop}(h:P:=by go_enter func12,ntmps12;go_wp2_with fail;go_ret;exact⟨rfl,rfl⟩):P:=h
theorem Da {P:Prop}(h:P:=by
 go_wp2_with (go_at_call 22;refine P.mono ?_;rintro e w3 ⟨⟨v,rfl⟩,X1,h1,h2⟩)
 go_end0;exact⟨⟨_,rfl⟩,X1,h1,h2⟩):P:=h
def stepW (i:Nat):List UInt8:=[[],[105,110,116],[110,105,108],[109,111,118,101],[112,97,105,114],[118,101,99,116,111,114],[119,101,97,107],[101,112,104,101,109],[103,117,97,114,100],[114,101,103],[112,111,112],[103,101,116],[115,101,116],[108,101,110],[115,97,109,101],[109,105,110,111,114],[109,97,106,111,114]].getD i []
structure hL (w:World):Prop where
 mx:∃m,w.cell? (av 1 0)=some (ak m)
 tab:Lib.TabIs Tryz.prog w "internal/strconv.uint64pow10" .u64 Lib.pow10Tab
 es:∃tp p,w.var? Tryz.prog "strconv.ErrSyntax" =some #[.iface tp p]
 er:∃tp p,w.var? Tryz.prog "strconv.ErrRange" =some #[.iface tp p]
 M_:∀i:Nat,i<17->w.cell? (av 0 i)=some (.string ⟨(stepW i).toArray⟩)
theorem xB {w w':az}{n:String}{c:Array a7}(h:w.var? O n=OH c)(hb:J (OK (OJ w)) w w'):w'.var? O n=OH c:=by
 unfold World.var? at h⊢;cases hg:prog.globalNamed n with
 |none=>rw[hg] at h;exact absurd h ac
 |some g=>
  rw[hg] at h;simp only [Option.bind_some] at h⊢;cases hw:w.heap[g]? with
  |none=>rw[hw] at h;exact absurd h ac
  |some o=>rw[hw] at h;rw[(hb.block g (ck hw)).trans hw];exact h
theorem hL.below {w w':az}(h:hL w)(hb:J (OK (OJ w)) w w'):hL w':=by obtain⟨⟨m,e⟩,g,⟨a,b,j⟩,⟨c,d,k⟩,f⟩:=h;exact⟨⟨m,(hb.cell (aT _ _ e)).trans e⟩,xB g hb,⟨a,b,xB j hb⟩,⟨c,d,xB k hb⟩,λi hi=>(hb.cell (aT _ _ (f i hi))).trans (f i hi)⟩
def tl (l:List UInt8):List UInt8:=Lib.trimLeftB l 32
def jW:Nat->List UInt8->List ByteArray
 |0,_=>[]
 |n+1,r=>if r=[] then[] else⟨(Lib.cut r [32]).1.toArray⟩::jW n (tl (Lib.cut r [32]).2.1)
def hZ (s:ByteArray):List ByteArray:=jW 5 (tl s.data.toList)
theorem tU (l:List UInt8):OG (tl l)<=OG l:=by unfold tl Lib.trimLeftB;exact(List.dropWhile_suffix _).length_le
theorem xC (l s:List UInt8):OG (Lib.cut l s).1<=OG l/\OG (Lib.cut l s).2.1<=OG l:=by unfold Lib.cut;split<;>simp<;>omega
theorem Db:∀(n:Nat)(r:List UInt8),OG (jW n r)<=n
 |0,_=>by simp[jW]
 |n+1,r=>by
  unfold jW;have:=Db n (tl (Lib.cut r [32]).2.1)
  split<;>simp;omega
theorem Dc:∀(n:Nat)(r:List UInt8),∀x∈jW n r,x.size<=OG r
 |0,_,x,b=>by simp[jW] at b
 |n+1,r,x,b=>by
  unfold jW at b;by_cases h:r=[]
  ·rw[aM h] at b;simp at b
  ·rw[aJ h,List.mem_cons] at b;rcases b with rfl|b
   ·exact(xC r [32]).1
   ·have c:=Dc n _ x b;have d:=tU (Lib.cut r [32]).2.1;have e:=(xC r [32]).2;omega
theorem Na (s:ByteArray):OG (hZ s)<=5:=Db _ _
theorem Nb (s:ByteArray)(x:ByteArray)(b:x∈hZ s):x.size<=s.size:=by have c:=Dc 5 _ x b;have d:=tU s.data.toList;have e:OG s.data.toList=s.size:=rfl;omega
theorem Dd:(prog.info? 9).map (λi=>(i.zero,i.size,i.bytes))=OH (OH (.string .empty),1,16):=ah
def De:a7->Nat
 |Z _ n _=>n
 |_=>0
theorem Df (s:ByteArray)(w:az):M O 23 #[.string s,.string ⟨#[32]⟩] w λe w'=>e=OL (.string ⟨(tl s.data.toList).toArray⟩)/\w=w':=
 (Tryz.strings_TrimLeft_one s 32 ae w).mono λ_ _ h=>⟨h.1,h.2.symm⟩
theorem Nc (n:Nat):jW n []=[]:=by cases n<;>simp[jW]
theorem Nd (r:List UInt8)(hr:OG r<=4000000000)(w:az)(b:hL w):M O 24 #[.string ⟨r.toArray⟩,.string ⟨#[32]⟩] w λe w'=>e=OL (ay #[.string ⟨(Lib.cut r [32]).1.toArray⟩,.string ⟨(Lib.cut r [32]).2.1.toArray⟩,bA (Lib.cut r [32]).2.2])/\J (OK (OJ w)) w w':=by
 obtain⟨m,hm⟩:=b.mx;refine(Tryz.strings_Cut ⟨r.toArray⟩ ⟨#[32]⟩ m w (by show OG r<_;omega) hm).mono ?_;rintro e w' ⟨rfl,n,rfl⟩
 exact⟨rfl,below_drewN bZ n⟩
theorem Nf {n:Nat}{r:List UInt8}(h:r≠[]):jW (n+1) r=⟨(Lib.cut r [32]).1.toArray⟩::jW n (tl (Lib.cut r [32]).2.1):=by rw[jW,aJ h]
theorem Ng (s:ByteArray)(hs:s.size<=4000000000)(w:az)(p:hL w):
 M O 16 #[.string s] w λe w'=>∃v,e=OL v/\aC w' (OK (OJ w)) 9 1 v (OG (hZ s)) ((hZ s).map Value.string)/\J (OK (OJ w)) w w':=by
 obtain⟨B,N,S,ab,ad⟩:=bM Dd;have ag:aA (s.size<=4000000000):=hs;have ai:aA (hL w):=p;clear hs p;go_enter func16,ntmps16;go_wp2_with (go_at_call 23;refine(Df _ _).mono ?_;rintro e w' ⟨rfl,rfl⟩)
 go_loopw [3,4] (λwv rv wr=>∃(W:List ByteArray)(r:List UInt8)(g:Option bB)(rc:Nat),hZ s=W++jW (5-OG W) r/\OG W<=5/\OG r<=s.size/\rv=.string ⟨r.toArray⟩/\wv=Z g (OG W) rc/\aA (aC wr (OK (OJ w)) 9 1 (Z g (OG W) rc) (OG W) (W.map Value.string))/\aA (J (OK (OJ w)) w wr)) (λwv _ _=>6-De wv)
 case atStart=>exact⟨[],_,OQ,0,rfl,a4 _,tU _,rfl,rfl,a9 _ _ _ _,aH _ _⟩
 case round=>
  obtain⟨W,r,g,rc,c,hn,hr,rfl,rfl,i,d⟩:=hrel;by_cases h0:r=[]
  ·subst h0;rw[Nc,List.append_nil] at c;have l:=cg c;clear c;go_wp2_with fail;go_ret;rw[l.o];exact⟨_,rfl,i.o,d.o⟩
  ·by_cases aR:OG W<=4
   ·have al:(OG W:Int)<=4:=aa;have am:(!r.isEmpty)=C:=by cases r<;>simp_all
    have P:=Nd r (by have:=ag.o;omega) wr (ai.o.below d.o)
    have aV:=(xC r [32]).2;rw[show 5-OG W=(4-OG W)+1 by omega,Nf h0] at c
    go_upto_region 5 with(go_at_call 24;refine P.mono ?_;rintro e f ⟨rfl,o⟩)
    have n:aA (aC f (OK (OJ w)) 9 1 (Z g (OG W) rc) (OG W) (W.map Value.string)/\J (OK (OJ w)) w f):=⟨cK i.o (λk e=>o.block k (cu i.o k e).2),d.o.trans (o.mono d.o.size)⟩
    clear P o i d;generalize (⟨(Lib.cut r [32]).1.toArray⟩:ByteArray)=F at*;have ht:=tU (Lib.cut r [32]).2.1;generalize (Lib.cut r [32]).2.1=a0 at*;generalize (Lib.cut r [32]).2.2=a1 at*;have an:=aw f (E #[.string F] 9)
    have ao:OK (OJ w)<=OK (OJ f):=n.o.2.size;have l:=cg c;clear c;go_wp2_with (first|(at_builtin;refine wpList_append_lies _ rfl _ _ 22 rfl (OK (OJ w)) 9 B (.string .empty) 1 16 underlying22 N S ab ad rfl ae (Z g (OG W) rc) (OG W) (W.map Value.string) rfl (gq n.o.1 _) ⟨OK (OJ f),0,OQ⟩ 1 1 [.string F] rfl rfl ?_ ?_ ae (by unfold bL;omega) aa (by simp;omega) _ rfl ?_;(intro j u m;match j,m with|0,m=>(cases m;simp[Addr.add])|k+1,m=>(simp at m));(intro u q;simp at q;subst q;rfl);intro ap ar t aB aF a2 bb)|(go_at_call 23;refine(Df _ _).mono ?_;rintro e bd ⟨rfl,rfl⟩))
    have x:aA (aC t (OK (OJ w)) 9 1 (Z (au ap) (OG W+1) ar) (OG W+1) ((W++[F]).map Value.string)/\J (OK (OJ w)) w t):=⟨by rw[bU];exact aB,(n.o.2.trans (an.mono ao)).grown aF (by simp;omega) (λb e=>(cu n.o.1 b e.symm).1)⟩
    go_roundw
    case rel=>exact⟨W++[F],_,_,_,by rw[l.o,bf,aX,show 5-(OG W+[F].length)=4-OG W by simp only [List.length_cons,yB];omega];rfl,by simp;omega,aa,rfl,by rw[aX];rfl,by rw[aX];exact x.o.1,x.o.2⟩
    case measure=>simp[De];omega
   ·have al:¬(OG W:Int)<=4:=aa;rw[show 5-OG W=0 by omega] at c;have am:(!r.isEmpty)=C:=by cases r<;>simp_all
    have l:=cg (show hZ s=W by simpa[jW] using c)
    clear c;go_wp2_with fail;go_ret;rw[l.o];exact⟨_,rfl,i.o,d.o⟩
theorem below_grow (w:az)(k:Nat)(os:Array Obj):J (OK (OJ w)) w (Sort.grow (w.drewN k) os):=
 ⟨rfl,rfl,rfl,by show _<=(_++_:Array Obj).size;rw[Array.size_append];exact Nat.le_add_right _ _,λb hb=>Array.getElem?_append_left hb⟩
theorem pZ (n:Int)(h:gK n)(w:az)(b:hL w):M O 54 #[ak n] w λe w'=>e=OL (.string ⟨(Lib.itoa n).toArray⟩)/\J (OK (OJ w)) w w':=by
 have P:=Tryz.strconv_FormatInt_10 n (by have:=h.1;omega) (by have:=h.2;omega) w b.tab;go_enter func54,ntmps54;go_wp2_with (go_at_call 46;refine P.mono ?_;rintro e w1 ⟨rfl,k,os,rfl⟩)
 go_ret;exact⟨rfl,below_grow _ _ _⟩
def rn (l:List UInt8):Option Int:=
 match Lib.parseIntB 64 l with
 |.ok v=>if Lib.itoa v=l then OH v else OQ
 |_=>OQ
def jB (s:ByteArray):Option Int:=rn s.data.toList
def nums:List ByteArray->Option (List Int)
 |[]=>OH []
 |s::l=>match jB s,nums l with
  |some v,OH N=>OH (v::N)
  |_,_=>OQ
def ru:Option (List Int)->Option Int->Option (List Int)
 |some N,OH v=>OH (N++[v])
 |_,_=>OQ
theorem Dg:∀(l:List ByteArray)(s:ByteArray),nums (l++[s])=ru (nums l) (jB s)
 |[],s=>by show(match jB s,nums [] with|some v,OH N=>OH (v::N)|_,_=>OQ)=_;cases h:jB s<;>simp[nums,ru]
 |a::l,s=>by show(match jB a,nums (l++[s]) with|some v,OH N=>OH (v::N)|_,_=>OQ)=_;rw[Dg l s];show _=ru (match jB a,nums l with|some v,OH N=>OH (v::N)|_,_=>OQ) _;cases jB a<;>cases nums l<;>cases jB s<;>simp[ru]
def iU (w:az)(ad:Option bB)(L:List ByteArray):Prop:=0<OG L->∃b o,ad=OH ⟨b,o,OQ⟩/\b<OK (OJ w)/\∀i,i<OG L->V w (av b (o+i))=OH (.string (U L i .empty))
theorem iU.below {w w':az}{ad:Option bB}{L:List ByteArray}(h:iU w ad L)(hb:J (OK (OJ w)) w w'):iU w' ad L:=λhp=>by obtain⟨b,o,e,hl,hc⟩:=h hp;exact⟨b,o,e,aL hl hb.size,λi hi=>(hb.cell hl).trans (hc i hi)⟩
theorem iU.of {w:az}{base b n cap:Nat}{L:List ByteArray}(h:aC w base 9 1 (Z (au b) n cap) n (L.map Value.string)):iU w (au b) L:=λ_=>by
 refine⟨b,0,rfl,(cu h b rfl).2,λi hi=>?_⟩
 rw[Nat.zero_add];refine(kq h (i:=i) ?_).1;rw[List.getElem?_map,aP hi,aN,aP hi];rfl
theorem Nh:(prog.info? 2).map (λi=>(i.zero,i.size,i.bytes))=OH (OH (ak 0),1,8):=ah
def nV (v:Int×Int):Prop:=v.1=3\/gK v.2
def mH (s:cT):Prop:=∀nd∈s.2,∀v∈nd.2,nV v
theorem Ni (M:cT->Int->cT)(T:List Int)(s:cT)(x:Int):nV (eg M T s x).1:=by
 unfold eg nV;split
 ·split
  ·split<;>exact aK rfl
  ·exact aI (show gK 0 from⟨ae,ae⟩)
 ·refine aI ?_;show gK (dp x)
  unfold dp;split
  ·rename_i h;have:=xM _ _ h;exact⟨aa,aa⟩
  ·exact⟨ae,ae⟩
theorem Dh {M:cT->Int->cT}{T:List Int}(hM:∀s a,mH s->mH (M s a))(s:cT)(l:List Int)(hs:mH s):(∀v∈(dE M T s l).1,nV v)/\mH (dE M T s l).2:=by
 have key:∀(l:List Int)(r:List (Int×Int)×cT),(∀v∈r.1,nV v)->mH r.2->(∀v∈(l.foldl (λr x=>(r.1++[(eg M T r.2 x).1],(eg M T r.2 x).2)) r).1,nV v)/\mH (l.foldl (λr x=>(r.1++[(eg M T r.2 x).1],(eg M T r.2 x).2)) r).2:=by
  intro l
  induction l with
  |nil=>exact λr c b=>⟨c,b⟩
  |cons x l d=>
   intro r c b;rw[a8];refine d _ (λv hv=>?_) ?_
   ·rcases bw.1 hv with hv|hv
    ·exact c v hv
    ·rw[bN.1 hv];exact Ni M T r.2 x
   ·show mH (eg M T r.2 x).2;unfold eg;split
    ·split
     ·split
      ·exact b
      ·exact hM _ _ b
     ·exact b
    ·exact b
 exact key l ([],s) ac hs
theorem Di {T:List Int}{kd:Int->Int}{sh:Int->List Int}:∀(n:Nat)(s:cT)(a:Int),mH s->mH (met T kd sh n s a)
 |0,_,_,h=>h
 |n+1,s,a,h=>by
  have:=Dh (T:=T) (Di (T:=T) (kd:=kd) (sh:=sh) n) (s.1++[a],s.2++[(kd a,[])]) (sh a) (λnd hn v hv=>by
   rcases bw.1 hn with hn|hn
   ·exact h nd hn v hv
   ·rw[bN.1 hn] at hv;simp at hv)
  intro nd hn v hv;rcases List.mem_or_eq_of_mem_set hn with hn|rfl
  ·exact this.2 nd hn v hv
  ·exact this.1 v hv
theorem Nj (N y g:Nat)(ws:List Int)(Q:List b8)(l:List Int):(∀v∈(gM N y g ws Q l).1,gK v.2)/\∀nd∈(gM N y g ws Q l).2.2,∀v∈nd.2,gK v.2:=by
 have h:=GF N y g ws Q l;have h1:OG (gM N y g ws Q l).2.1<=4000:=by refine aS h.ok.le ?_;exact Bw
 have hk:(∀v∈(gM N y g ws Q l).1,nV v)/\mH (gM N y g ws Q l).2:=Dh (Di _) _ _ (by intro nd hn;simp at hn)
 have c:∀v:Int×Int,nV v->nZ (OG (gM N y g ws Q l).2.1) v->gK v.2:=λv a b=>a.elim (λe=>by have:=b e;exact⟨aa,aa⟩) id;refine⟨λv hv=>c v (hk.1 v hv) (h.eB v hv),λnd hn v hv=>c v (hk.2 nd hn v hv) ?_⟩
 obtain⟨i,hi,e⟩:=List.mem_iff_getElem.1 hn;obtain⟨d,q1,_,_,f,_⟩:=h.nw i ac (by rw[<-h.ok.len];exact hi)
 rw[aP hi,e] at q1;have q1:nd=d:=by simpa using q1
 exact f v (q1▸hv)
theorem ef.Dj {w1 w:az}{c:Wc}{t:pX}{i k:Nat}{F G:Nat->Prop}{S:cv}{W:cj}(h:ef w1 c t F G S W i k w)(hi:i<=10000):(∀v∈(ee.eT W.T W.wt W.rs).1,gK v.2)/\∀nd∈(ee.eT W.T W.wt W.rs).2.2,∀v∈nd.2,gK v.2:=by obtain⟨b,d⟩:=h.cJ hi;rw[<-b,<-d];exact Nj _ _ _ _ _ _
theorem Dk (l:List ByteArray){i:Nat}(hi:i<OG l):l.take (i+1)=l.take i++[U l i .empty]:=by rw[uc,aP hi,aN,aP hi];rfl
theorem xD:∀{l:List ByteArray}(i:Nat),nums (l.take i)=OQ->nums l=OQ
 |[],i,h=>by simpa using h
 |s::l,0,h=>by simp[nums] at h
 |s::l,i+1,h=>by
  rw[List.take_succ_cons] at h;unfold nums at h⊢;cases hs:jB s<;>simp only [hs] at h⊢
  cases hl:nums (l.take i) with
  |none=>rw[xD i hl]
  |some N=>rw[hl] at h;cases h
theorem Nk (s:ByteArray)(hs:s.size<=4000000000)(w:az)(b:hL w):
 M O 45 #[.string s,ak 10,ak 64] w λe w'=>J (OK (OJ w)) w w'/\((∃v,Lib.parseIntB 64 s.data.toList=.ok v/\e=OL (ay #[ak v,.nilIface]))\/(jB s=OQ/\∃v T p,e=OL (ay #[ak v,.iface T p]))):=by
 cases h:Lib.parseIntB 64 s.data.toList with
 |ok v=>
  refine(Tryz.strconv_ParseInt_10_at64_ok s aa v h w).mono ?_;rintro e w' ⟨rfl,hw⟩
  refine⟨?_,aK ⟨v,rfl,rfl⟩⟩
  rcases hw with rfl|⟨t,rfl⟩
  ·exact aH _ _
  ·exact Lib.bytesWorld_below _ _ _
 |«syntax»=>
  obtain⟨tp,p,hv⟩:=b.es;refine(Tryz.strconv_ParseInt_10_at64_syntax_var s aa h tp p w hv).mono ?_;rintro e w' ⟨N,rfl,_,_,hb⟩
  exact⟨hb,aI ⟨by unfold jB rn;rw[h],_,_,_,rfl⟩⟩
 |range=>
  obtain⟨tp,p,hv⟩:=b.er;refine(Tryz.strconv_ParseInt_10_at64_range_var s aa h tp p w hv).mono ?_;rintro e w' ⟨N,rfl,_,_,hb⟩
  exact⟨hb,aI ⟨by unfold jB rn;rw[h],_,_,_,rfl⟩⟩
theorem Nl (L:List ByteArray)(ad:Option bB)(cp:Nat)(w:az)(S:iU w ad L)(hm:OG L<=10)(hz:∀x∈L,x.size<=4000000000)(W:hL w):
 M O 34 #[Z ad (OG L) cp] w λe w'=>J (OK (OJ w)) w w'/\((∃N v,nums L=OH N/\e=OL (ay #[v,bA C])/\aC w' (OK (OJ w)) 2 1 v (OG N) (N.map (Value.int OM)))\/(nums L=OQ/\e=OL (ay #[Z OQ 0 0,bA OU]))):=by
 obtain⟨ao,ap,ar,aB,aF⟩:=bM Nh;have aR:=cg S;have t:=cg hm;have aV:=cg hz;have ab:=cg W;clear S hm hz W;go_enter func34,ntmps34;go_wp2_with fail
 go_loopw [4,11] (λnv iv wr=>∃(i:Nat)(N:List Int)(g:Option bB)(rc:Nat),i<=OG L/\iv=ak i/\aA (nums (L.take i)=OH N)/\aA (OG N=i)/\nv=Z g (OG N) rc/\aA (aC wr (OK (OJ w)) 2 1 (Z g (OG N) rc) (OG N) (N.map (Value.int OM)))/\aA (J (OK (OJ w)) w wr)) (λ_ iv _=>OG L-K (bG iv))
 case atStart=>exact⟨0,[],OQ,0,a4 _,rfl,rfl,rfl,rfl,a9 _ _ _ _,aH _ _⟩
 case round=>
  obtain⟨i,N,g,rc,hi,rfl,ag,ai,rfl,l,c⟩:=hrel;by_cases o:i<OG L
  ·obtain⟨bs,bt,a0,l0,hc⟩:=aR.o aa;subst a0;have a1:=(c.o.cell l0).trans (hc i o)
   have q0:(0:Int)<=(i:Int):=aa;have q1:(i:Int)<(OG L:Int):=aa;have a2:=cg (Dk L o)
   have bb:=aV.o (U L i .empty) (by rw[aN,aP o];exact a_ o)
   have q:=cg (show nums (L.take (i+1))=ru (nums (L.take i)) (jB (U L i .empty)) by rw[a2.o,Dg])
   generalize U L i .empty=st at*;have P:=Nk st bb wr (ab.o.below c.o)
   rw[ag.o] at q;clear hc
   go_upto_region 6 with(go_at_call 45;refine P.mono ?_;rintro e bd ⟨d,⟨v,hv,rfl⟩|⟨hn,v,T,p,rfl⟩⟩)
   ·have hk:gK v:=by
     have:=Lib.parseIntB_bounds hv;simp at this
     exact⟨aa,aa⟩
    have B:=pZ v hk bd (ab.o.below (c.o.trans (d.mono c.o.size)))
    by_cases hq:Lib.itoa v=st.data.toList
    ·have hB:(!Lib.itoa v==st.toList)=OU:=by rw[Lib.toList_data,hq];simp
     have be:=cg (show nums (L.take (i+1))=OH (N++[v]) by rw[q.o,show jB st=OH v by unfold jB rn;rw[hv];exact aM hq];rfl)
     clear hq
     go_upto_region 8 with(go_at_call 54;refine B.mono ?_;rintro e f ⟨rfl,m⟩)
     have s:aA (aC f (OK (OJ w)) 2 1 (Z g (OG N) rc) (OG N) (N.map (Value.int OM))/\J (OK (OJ w)) w f):=⟨cK (cK l.o (λk e=>d.block k (cu l.o k e).2)) (λk e=>m.block k (aL (cu l.o k e).2 d.size)),(c.o.trans (d.mono c.o.size)).trans (m.mono (aS c.o.size d.size))⟩
     clear P B d m l c a1;have bg:=aw f (E #[OP OM v] 2)
     have bi:OK (OJ w)<=OK (OJ f):=s.o.2.size;have bx:=t.o;have b0:OG N<=10:=by have:=ai.o;have:=t.o;omega
     go_wp2_with (at_builtin;refine wpList_append_lies _ rfl _ _ 66 rfl (OK (OJ w)) 2 ao (ak 0) 1 8 underlying66 ap ar aB aF rfl ae (Z g (OG N) rc) (OG N) (N.map (Value.int OM)) rfl (gq s.o.1 _) ⟨OK (OJ f),0,OQ⟩ 1 1 [ak v] rfl rfl ?_ ?_ ae (by unfold bL;omega) aa (by simp;omega) _ rfl ?_;(intro j u n;match j,n with|0,n=>(cases n;simp[Addr.add])|k+1,n=>(simp at n));(intro u al;simp at al;subst al;rfl);intro bl bn am bo bp b1 b2)
     have an:aA (aC am (OK (OJ w)) 2 1 (Z (au bl) (OG N+1) bn) (OG N+1) ((N++[v]).map (Value.int OM))/\J (OK (OJ w)) w am):=⟨by rw[bU];exact bo,(s.o.2.trans (bg.mono bi)).grown bp (by simp;omega) (λb e=>(cu s.o.1 b e.symm).1)⟩
     go_roundw
     case rel=>exact⟨i+1,N++[v],_,_,aa,aj,be,by have:=ai.o;show OG (N++[v])=i+1;rw[aX,this];rfl,by rw[aX];rfl,by rw[aX];exact an.o.1,an.o.2⟩
     case measure=>simp[bG];omega
    ·have hB:(!Lib.itoa v==st.toList)=C:=by rw[Lib.toList_data];simpa using hq
     have F:=cg (show nums L=OQ from xD (i+1) (by rw[q.o,show jB st=OQ by unfold jB rn;rw[hv];exact aJ hq];rfl))
     clear hq;go_wp2_with (go_at_call 54;refine B.mono ?_;rintro e f ⟨rfl,m⟩)
     go_ret2;exact⟨(c.o.trans (d.mono c.o.size)).trans (m.mono (aS c.o.size d.size)),aI ⟨F.o,rfl⟩⟩
   ·have hl:=t.o;have F:=cg (show nums L=OQ from xD (i+1) (by rw[q.o,hn];rfl))
    go_wp2_with fail;go_ret2;exact⟨c.o.trans (d.mono c.o.size),aI ⟨F.o,rfl⟩⟩
  ·obtain rfl:i=OG L:=aa;have br:=cg (show nums L=OH N by have:=ag.o;rwa [bc] at this)
   go_wp2_with fail;go_ret2;exact⟨c.o,aK ⟨N,_,br.o,rfl,l.o⟩⟩
section
variable {P:Program}{w:az}
theorem Nn (base:Nat)(t u ty e:bI)(i:TypeInfo)(ht:P.underlying t=OH (.slice e))(f:P.underlying u=OH .string)(hi:P.info? e=OH i)(hz:i.zero=OH (OP .u8 0))(m:i.size=1)(o:i.bytes=1)
 (v:a7)(n:Nat)(d:List a7)(k:aC w base e 1 v n d)(s:ByteArray)(p:n+s.size<=bL)(S:n+s.size<=140737488355328){l:a7}{w':az}
 (hr:(Builtin.append_ #[t,u] ty #[v,.string s]).run P w=.ok l w')(q:l=Z OQ 0 0↔v=Z OQ 0 0/\s.size=0):∀b,OY l=OH b->OY v=OH b\/b=OK (OJ w):=by
 intro b hb;have x:OG d=n:=by simpa using k.1
 rcases k.2 with⟨rfl,rfl⟩|⟨g,cap,B,rfl,W,hg,ab,ad,ag,ai⟩
 ·by_cases hm:s.size=0
  ·rw[q.2 ⟨rfl,hm⟩] at hb;simp[Value.ownBlock] at hb
  ·have c:=run_append_nil_string (P:=P) w t u ty e i (OP .u8 0) ht f hi hz s aa (by unfold bL at p;omega) (by rw[o];omega)
   rw[hr] at c;injection c with c _
   rw[c] at hb;simp[Value.ownBlock] at hb;exact aI hb.symm
 ·by_cases F:n+s.size<=cap
  ·have c:=Lib.run_append_room_string (P:=P) w t u ty e i ht f hi m g n cap B hg s F aa;rw[hr] at c;injection c with c _
   rw[c] at hb;exact aK hb
  ·have N:∀j u,d[j]?=OH u->V w ((⟨g,0,OQ⟩:bB).add j)=OH u:=k.cells (g:=g) rfl;have c:=Lib.run_append_grow_string (P:=P) w t u ty e i (OP .u8 0) ht f hi hz ⟨g,0,OQ⟩ n cap d (by rw[m];simpa using x) N s aa (by unfold bL at p;omega) (by rw[o];exact growslice_fits aa aa)
   rw[hr] at c;injection c with c _
   rw[c] at hb;simp[Value.ownBlock] at hb;exact aI hb.symm
theorem No {ops:Array Oper}{f:List Oper}{o:Oper}{a:Act}{Q:Exit->Act->az->Prop}(B:o.guard=OQ)(sl x:Operand)(t u:bI)(ho:o.op=.call {callee:=.builtin .append,args:=#[sl,x],argTypes:=#[t,u]})
 (base:Nat)(e:bI)(i:TypeInfo)(ht:P.underlying t=OH (.slice e))(g:P.underlying u=OH .string)(hi:P.info? e=OH i)(hz:i.zero=OH (OP .u8 0))(j:i.size=1)(k:i.bytes=1)
 (v:a7)(n:Nat)(d:List a7)(hs:a.eval sl=v)(l:aC w base e 1 v n d)(s:ByteArray)(F:a.eval x=.string s)(m:n+s.size<=bL)(p:n+s.size<=140737488355328)(N:base<=OK (OJ w))
 (h:∀c w',aC w' base e 1 c (n+s.size) (d++Lib.strCells s)->w.grownBy w' v.ownBlock->(c=Z OQ 0 0↔v=Z OQ 0 0/\s.size=0)->(∀b,OY c=OH b->OY v=OH b\/b=OK (OJ w))->wpList P ops Q f (a.put o.dst c) w'):wpList P ops Q (o::f) a w:=by
 refine wpList_plain B λK S=>?_;obtain⟨c,w',hr,W,ab,q⟩:=Lib.run_append_own_string (P:=P) w base t u o.type e i ht g hi hz j k v n d l s m p N;have ad:=Nn base t u o.type e i ht g hi hz j k v n d l s m p hr q;unfold Oper.wp execOp;simp only [ho,resolve,invoke,builtin,Sem.run_bind,Sem.run_pure,Result.andThen_ok,List.map_toArray,List.map_cons,List.map_nil,hs,F,hr];exact S _ _ (h c w' W ab q ad)
end
structure fN (X:Nat->Prop)(k d:Nat)(out:List UInt8)(w:az):Prop where
 lo:X k
 mem:∃p v,w.heap[k]?=OH (E #[aq d,p,v] 52 (0,0))/\(p=bq OQ\/p=bq (OH ⟨k,1,OQ⟩))/\aC w 0 5 1 v (OG out) (Lib.byteCells out)/\OY v≠OH k/\(out=[]->v=Z OQ 0 0)/\∀b,OY v=OH b->X b
theorem fN.lt {X:Nat->Prop}{k d:Nat}{b:List UInt8}{w:az}(h:fN X k d b w):k<OK (OJ w):=by obtain⟨p,v,hb,_⟩:=h.mem;exact ck hb
theorem fN.fr {X F:Nat->Prop}{k d:Nat}{c:List UInt8}{w w':az}(h:fN X k d c w)(f:Fr F w w')(hd:∀b,X b->¬F b):fN X k d c w':=by obtain⟨p,v,g,l,i,m,n,j⟩:=h.mem;exact⟨h.lo,p,v,(f.block k (ck g) (hd k h.lo)).trans g,l,cK i (λb e=>f.block b (cu i b e).2 (hd b (j b e.symm))),m,n,j⟩
theorem fN.below {X:Nat->Prop}{k d:Nat}{c:List UInt8}{w w':az}(h:fN X k d c w)(hb:J (OK (OJ w)) w w'):fN X k d c w':=by obtain⟨p,v,f,i,g,j⟩:=h.mem;exact⟨h.lo,p,v,(hb.block k (ck f)).trans f,i,cK g (λb e=>hb.block b (cu g b e).2),j⟩
theorem infoByte:(prog.info? 5).map (λi=>(i.zero,i.size,i.bytes))=OH (OH (OP .u8 0),1,1):=ah
theorem Dl:(prog.info? 50).map (·.size)=OH 2:=ah
theorem Np (k:Nat)(w:az)(h0:V w (av k 1)=OH (bq (OH ⟨k,1,OQ⟩))):
 M O 65 #[bq (OH ⟨k,1,OQ⟩)] w λe w'=>e=OL (ay #[])/\w=w':=by
 obtain⟨j,b,_⟩:=Cm.1 Dl;go_enter func65,ntmps65;go_wp2;rw[Lib.run_neq_ptr_same w _ underlying47 b];go_wp2;go_end0;exact⟨rfl,rfl⟩
theorem Nq (k:Nat)(w:az)(c:a7)(v:a7)(hk:w.heap[k]?=OH (E #[c,bq OQ,v] 52 (0,0))):
 M O 65 #[bq (OH ⟨k,1,OQ⟩)] w λe w'=>e=OL (ay #[])/\OZ w ⟨k,1,OQ⟩ (bq (OH ⟨k,1,OQ⟩))=w':=by
 obtain⟨j,b,f⟩:=Cm.1 Dl;have h0:V w (av k 1)=OH (bq OQ):=aD hk
 have g:bF w (av k 1)=OU:=aE hk
 have d:w.shape? k=OH (52,3):=by simp[World.shape?,hk]
 go_enter func65,ntmps65;go_wp2;rw[Lib.run_to_unsafe w ⟨k,1,OQ⟩ underlying47 underlying169 b (by rw[f];decide) d (by show 1<3;decide)];simp only [Result.andThen];rw[Oper.upon_value];go_wp2;rw[run_callFunc_extern func96 ah ah ah (e:=Extern.AbiNoEscape.same) ah];rw[Lib.run_noEscape];simp only [Result.andThen];rw[Oper.upon_value];go_wp2;rw[Lib.run_from_unsafe w ⟨k,1,OQ⟩ underlying169 underlying47 b d ah];simp only [Result.andThen];rw[Oper.upon_value];go_wp2;go_end0;exact⟨rfl,rfl⟩
theorem xE {w:az}{base n m:Nat}{e:bI}{v:a7}{l:List a7}(h:aC w base e m v n l):∃ao b cap,v=Z ao b cap:=by
 rcases h.2 with⟨hv,_⟩|⟨g,cap,c,hv,_⟩
 ·exact⟨_,_,_,hv⟩
 ·exact⟨_,_,_,hv⟩
theorem Do {X:Nat->Prop}{k d:Nat}{c:List UInt8}{w:az}(h:fN X k d c w)(s:ByteArray)(hs:OG c+s.size<=140737488355328):
 M O 38 #[bq (OH ⟨k,1,OQ⟩),.string s] w λe w'=>(∃v,e=OL v)/\∃o,fN o k d (c++s.data.toList) w'/\b9 X w o w':=by
 obtain⟨p,v,hk,hp,hrow,j,q,hX⟩:=h.mem;have t:M O 65 #[bq (OH ⟨k,1,OQ⟩)] w λe w'=>e=OL (ay #[])/\w'.heap[k]?=OH (E #[aq d,bq (OH ⟨k,1,OQ⟩),v] 52 (0,0))/\aC w' 0 5 1 v (OG c) (Lib.byteCells c)/\Fr (λb=>b=k) w w':=by
  rcases hp with rfl|rfl
  ·refine(Nq k w _ v hk).mono ?_;rintro e w' ⟨rfl,rfl⟩
   refine⟨rfl,by simp only [World.setCell,bE,if_true,hk,bH];simp,?_,(Fr.refl _ w).set _ _ _ rfl⟩
   exact il hrow ((Fr.refl (λb=>b=k) w).set k 1 _ rfl) (λb e hb=>j (e.symm.trans (congrArg OH hb)))
  ·refine(Np k w (by simp[World.cell?,hk])).mono ?_;rintro e w' ⟨rfl,rfl⟩
   exact⟨rfl,hk,hrow,Fr.refl _ _⟩
 obtain⟨N,hi,S,W,ab⟩:=bM infoByte;have H:=ge h.lo j hX;have ad:=cg q;clear h hp hk hrow j q hX;go_enter func38,ntmps38
 go_upto_region 2 with(go_at_call 65;refine t.mono ?_;rintro e w1 ⟨rfl,f,ag,u⟩)
 have ap:V w1 (av k 2)=OH v:=aD f
 have x:=cY u f;clear t u;go_wp2_with (at_builtin;refine No rfl _ _ 48 9 rfl 0 5 N underlying48 underlying9 hi S W ab v (OG c) (Lib.byteCells c) rfl ag s rfl (by unfold bL;omega) aa (a4 _) ?_;intro ar l m B ai al;obtain⟨ao,n,cap,rfl⟩:=xE m;have i:=(B.block k (ck f) (λe=>H.o.2.1 e.symm)).trans f;have aB:V l (av k 2)=OH v:=aD i;have aF:bF l (av k 2)=OU:=(by simp[World.frozen?,i]))
 go_ret2;have F:OY (Value.slice ao n cap)≠OH k:=by
  rcases m.2 with⟨e,_⟩|⟨g,c2,aR,e,_,hg,_⟩
  ·cases e;simp[Value.ownBlock]
  ·cases e;intro e;cases e;rw[i] at hg;exact absurd (j3 hg) ac
 refine⟨⟨_,rfl⟩,λb=>X b\/OY (Value.slice ao n cap)=OH b,⟨aK H.o.1,bq (OH ⟨k,1,OQ⟩),Z ao n cap,by simp only [World.setCell,bE,if_true,i,bH];simp,aI rfl,?_,F,λe=>?_,λb hb=>aI hb⟩,?_,?_⟩
 ·rw[aX,show OG s.data.toList=s.size from rfl,show Lib.byteCells (c++s.data.toList)=Lib.byteCells c++Lib.strCells s by simp[Lib.byteCells,Lib.strCells]];exact il m ((Fr.refl (λb=>b=k) l).set k 2 _ rfl) (λb e hb=>F (e.symm.trans (congrArg OH hb)))
 ·obtain⟨am,an⟩:=List.append_eq_nil_iff.1 e;exact ai.2 ⟨ad.o am,by show OG s.data.toList=0;rw[an];rfl⟩
 ·exact((x.o.1.mono (λb e=>by subst e;exact H.o.1)).grown B (λb e=>aK (H.o.2.2 b e))).set k 2 _ H.o.1
 ·rintro b (hb|hb)
  ·exact aK hb
  ·rcases al b hb with hc|hc
   ·exact aK (H.o.2.2 b hc)
   ·exact aI (hc▸x.o.1.size)
def kk (L:List ByteArray):List UInt8:=Lib.join (L.map (·.data.toList)) [32]
def txt (L:List ByteArray):List UInt8:=kk L++[10]
theorem rx {X:Nat->Prop}{k d:Nat}{f:List UInt8}{w:az}(h:fN X k d f w)(L:List ByteArray)(ad:Option bB)(cp:Nat)(t:iU w ad L)(u:0<OG L)(hc:OG L<=cp)(hn:OG L<=1000000)(hs:OG f+OG (txt L)<=140737488355328):
 M O 22 #[aq k,Z ad (OG L) cp] w λe w'=>(∃v,e=OL v)/\∃c,fN c k d (f++txt L) w'/\b9 X w c w':=by
 obtain⟨b,o,rfl,B,l⟩:=t u;have ht:OG (txt L)=OG (kk L)+1:=by simp[txt]
 have m:M O 39 #[Z (OH ⟨b,o,OQ⟩) (OG L) cp,.string ⟨#[32]⟩] w.drew λe w'=>e=OL (.string ⟨(kk L).toArray⟩)/\J (OK (OJ w)) w w':=by
  refine(Tryz.strings_Join b o cp L ⟨#[32]⟩ w.drew (λj x F=>?_) B aa hc (by show OG (kk L)<=_;omega)).mono ?_
  ·obtain⟨n,rfl⟩:=List.getElem?_eq_some_iff.1 F;have:=l j n;rw[aN,aP n] at this
   exact this
  ·rintro e w' ⟨rfl,hb⟩
   exact⟨rfl,(Below.drew (aH _ w)).trans hb⟩
 have p:∀w1,J (OK (OJ w)) w w1->M O 38 #[bq (OH ⟨k,1,OQ⟩),.string ⟨(kk L).toArray⟩] w1 λe w'=>(∃v,e=OL v)/\∃c,fN c k d (f++kk L) w'/\b9 X w c w':=λw1 hb=>by
  refine(Do (h.below hb) ⟨(kk L).toArray⟩ (by show OG f+OG (kk L)<=_;omega)).mono ?_;rintro e w' ⟨he,c,i,g⟩
  exact⟨he,c,i,(b9.of hb).trans g⟩
 have H:=ge m p hs;have ai:=h.lt;clear m p l h hs;go_enter func22,ntmps22;go_wp2
 go_region_held3 (λ_=>True) (first|exact trivial) (first|(go_at_call 38;refine(H.o.2.1 _ N).mono ?_;rintro e S ⟨⟨v,rfl⟩,al,q,s⟩)|(go_at_call 39;refine H.o.1.mono ?_;rintro e w1 ⟨rfl,N⟩))
 have W:M O 38 #[bq (OH ⟨k,1,OQ⟩),.string ⟨#[10]⟩] S λe w'=>(∃v,e=OL v)/\∃c,fN c k d (f++txt L) w'/\b9 X w c w':=by
  refine(Do q ⟨#[10]⟩ (by rw[aX];show _+1<=_;have:=H.o.2.2;omega)).mono ?_;rintro e w' ⟨he,c,i,g⟩
  refine⟨he,c,?_,s.trans g⟩
  have e:f++kk L++(⟨#[10]⟩:ByteArray).data.toList=f++txt L:=by rw[bf];rfl
  rw[<-e];exact i
 clear q s H;go_wp2_with (go_at_call 38;refine W.mono ?_;rintro e am ⟨⟨an,rfl⟩,ab,g,ag⟩)
 go_end0;exact⟨⟨_,rfl⟩,ab,g,ag⟩
def bs (l:List UInt8):ByteArray:=⟨l.toArray⟩
theorem jC {w:az}{b:Nat}{c:Array a7}{T:bI}(h:w.heap[b]?=OH (E c T (0,0))){i:Nat}{v:a7}(hi:c[i]?=OH v):V w (av b i)=OH v:=by simp[World.cell?,h,hi]
theorem Nr (a b:List UInt8):bs a++bs b=bs (a++b):=by apply ByteArray.ext;simp[bs]
def rz (v:Int×Int):List UInt8:=if v.1=0 then[110,105,108] else if v.1=2 then[103,111,110,101] else if v.1=3 then 35::Lib.itoa v.2 else Lib.itoa v.2
def lS (k:Int):List UInt8:=if k=1 then[112,97,105,114] else if k=2 then[118,101,99,116,111,114] else if k=3 then[119,101,97,107] else if k=4 then[101,112,104,101,109] else[103,117,97,114,100]
theorem Dp (n:Int)(h:gK n)(w:az)(b:hL w):M O 59 #[ak n] w λe w'=>e=OL (.string (bs (35::Lib.itoa n)))/\J (OK (OJ w)) w w':=by
 have P:=pZ n h w b;have hl:=Lib.itoa_length_le n h.1 h.2;go_enter func59,ntmps59;go_wp2_with (go_at_call 54;refine P.mono ?_;rintro e w1 ⟨rfl,hb⟩)
 go_ret;exact⟨congrArg (λx=>Ending.returned (.string x)) (Nr [35] (Lib.itoa n)),hb⟩
theorem Ns (k n:Int)(h:gK n)(w:az)(f:hL w):M O 91 #[.agg #[ak k,ak n]] w λe w'=>e=OL (.string (bs (rz (k,n))))/\J (OK (OJ w)) w w':=by
 have b:=aw w (E #[OP OM k,OP OM n] 139)
 have j:V (bu w (E #[OP OM k,OP OM n] 139)) (av (OK (OJ w)) 0)=OH (ak k):=jC (aO _ _) rfl;have l:V (bu w (E #[OP OM k,OP OM n] 139)) (av (OK (OJ w)) 1)=OH (ak n):=jC (aO _ _) rfl;have g:=pZ n h _ (f.below b)
 have i:=Dp n h _ (f.below b)
 unfold rz;dsimp only;by_cases h0:k=0
 ·subst h0;go_enter func91,ntmps91;go_wp2_with fail;go_ret;exact⟨rfl,b⟩
 ·by_cases c:k=2
  ·subst c;go_enter func91,ntmps91;go_wp2_with fail;go_ret;exact⟨rfl,b⟩
  ·by_cases d:k=3
   ·subst d;go_enter func91,ntmps91;go_wp2_with (go_at_call 59;refine i.mono ?_;rintro e w1 ⟨rfl,hb⟩)
    go_ret;exact⟨rfl,b.trans (hb.mono b.size)⟩
   ·rw[aJ h0,aJ c,aJ d];have m:(k==0)=OU:=by simpa using h0
    have b2:(k==2)=OU:=by simpa using c
    have b3:(k==3)=OU:=by simpa using d
    go_enter func91,ntmps91;go_wp2_with (go_at_call 54;refine g.mono ?_;rintro e w1 ⟨rfl,hb⟩)
    go_ret;exact⟨rfl,b.trans (hb.mono b.size)⟩
theorem Nt (k:Int)(w:az):M O 60 #[ak k] w λe w'=>e=OL (.string (bs (lS k)))/\w=w':=by
 unfold lS;by_cases b:k=1
 ·subst b;exact rk
 ·by_cases c:k=2
  ·subst c;exact rk
  ·by_cases d:k=3
   ·subst d;exact rk
   ·by_cases f:k=4
    ·subst f;exact rk
    ·rw[aJ b,aJ c,aJ d,aJ f];have b1:(k==1)=OU:=by simpa using b
     have b2:(k==2)=OU:=by simpa using c
     have b3:(k==3)=OU:=by simpa using d
     have b4:(k==4)=OU:=by simpa using f
     exact rk
theorem oR {w:az}{g base:Nat}{b:Array a7}{L:List ByteArray}(h:w.heap[g]?=OH (E b 9 (0,0)))(hb:base<=g)(e:b.toList=L.map Value.string)(hl:OG L<=1000):aC w base 9 1 (Z (au g) (OG L) (OG L)) (OG L) (L.map Value.string):=by
 have hs:b.size=OG L:=by rw[<-Array.length_toList,e,a5]
 refine⟨ac,aI ⟨g,OG L,b,rfl,hb,h,aG _,by unfold bL;omega,aa,?_⟩⟩
 rw[e,Nat.mul_one,List.take_of_length_le ac]
def iz (c:Int):List ByteArray:=if c=0 then[bs [111,107]] else[bs [110,111],bs (Lib.itoa c)]
theorem Nv (a b:List UInt8):txt [bs a,bs b]=a++32::(b++[10]):=by simp[txt,kk,bs,Lib.join]
theorem Nw {X:Nat->Prop}{k d:Nat}{f:List UInt8}{w:az}(h:fN X k d f w)(q:hL w)(c:Int)(hc:gK c)(hs:OG f<=140737488350000):
 M O 56 #[aq k,ak c,Z OQ 0 0] w λe w'=>(∃v,e=OL v)/\∃b,fN b k d (f++txt (iz c)) w'/\b9 X w b w':=by
 unfold iz;by_cases h0:c=0
 ·subst h0;rw[aM rfl];have g:=aw w (E #[.string (bs [111,107])] 9)
  have hn:=aO w (E #[.string (bs [111,107])] 9)
  have P:=rx (h.below g) [bs [111,107]] _ 1 (iU.of (oR hn (a4 _) rfl ae)) ae ae ae (by simp[txt,kk,bs,Lib.join];omega)
  have i:M O 22 #[aq k,Z (au (OK (OJ w))) 1 1] (bu w (E #[.string (bs [111,107])] 9)) λe w'=>(∃v,e=OL v)/\∃b,fN b k d (f++txt [bs [111,107]]) w'/\b9 X w b w':=P.mono (by
   rintro e w' ⟨h1,b,h2,j⟩
   exact⟨h1,b,h2,(b9.of g).trans j⟩)
  clear P h hn g;go_enter func56,ntmps56;go_wp2_with (go_at_call 22;refine i.mono ?_;rintro e w1 ⟨⟨v,rfl⟩,X1,h1,h2⟩)
  refine a3 (v:=ay #[]) (by simp[results,results56,go_sem]) rfl ⟨⟨_,rfl⟩,X1,h1,h2⟩
 ·rw[aJ h0];have s:(c==0)=OU:=by simpa using h0
  have l:=pZ c hc w q;have t:=Lib.itoa_length_le c hc.1 hc.2;have i:∀w1,J (OK (OJ w)) w w1->M O 22 #[aq k,Z (au (OK (OJ w1))) 2 2] (bu w1 (E #[.string (bs [110,111]),.string (bs (Lib.itoa c))] 9)) λe w'=>(∃v,e=OL v)/\∃b,fN b k d (f++txt [bs [110,111],bs (Lib.itoa c)]) w'/\b9 X w b w':=λw1 hb=>by
   have g:=aw w1 (E #[.string (bs [110,111]),.string (bs (Lib.itoa c))] 9)
   have hn:=aO w1 (E #[.string (bs [110,111]),.string (bs (Lib.itoa c))] 9)
   have m:=hb.trans (g.mono hb.size)
   refine(rx (h.below m) [bs [110,111],bs (Lib.itoa c)] _ 2 (iU.of (oR hn (a4 _) rfl ac)) ac ac ac (by rw[Nv];simp;omega)).mono ?_;rintro e w' ⟨h1,b,h2,j⟩
   exact⟨h1,b,h2,(b9.of m).trans j⟩
  clear h;go_enter func56,ntmps56;go_wp2_with (go_at_call 54;refine l.mono ?_;rintro e w1 ⟨rfl,n⟩)
  have P:=i w1 n;clear i l n;generalize o:bu w1 (E #[.string (bs [110,111]),.string (bs (Lib.itoa c))] 9)=p at P;rw[show bu w1 (E #[.string ⟨#[110,111]⟩,.string ⟨(Lib.itoa c).toArray⟩] 9)=p from o];generalize OK (OJ w1)=b1 at*;clear o
  go_loopw [6,19] (λwv iv wr=>wr=p/\wv=Z (au b1) 2 2/\iv=ak 0) (λ_ _ _=>0)
  case atStart=>exact⟨rfl,rfl,rfl⟩
  case round=>
   obtain⟨hrel,rfl,rfl⟩:=hrel;have hrel:=hrel.symm;subst hrel;exact Da
section
variable {wb w1 w w' w2:az}{c:Wc}{t:pX}{F G X D X':Nat->Prop}{S:cv}{W:cj}{i j k d m:Nat}{out out':List UInt8}{s:Option (Nat×Nat×cj)}
theorem ef.base (h:ef w1 c t F G S W i j w)(hb:OK (OJ wb)<=OK (OJ w1))(be:J (OK (OJ wb)) wb w):ef wb c t F G S W i j w:=
 {h with mF:=aS hb h.mF,fM:=λb e=>aS hb (h.fM b e),mG:=λb e=>aS hb (h.mG b e),be:=be}
theorem ef.tW (h:ef w1 c t F G S W i j w)(f:Fr X w w')(g:∀b,F b->¬X b)(k:∀b,G b->¬X b)(ht:¬X t.tp)(l:∀b,X b->OK (OJ w1)<=b):ef w1 c t F G S W i j w':=
 ⟨(cD c t.hp).fr h.g f (λb d e=>g b d e),(cG t.b7 t.n t.o t.rb).fr h.r f (λb d e=>k b d e),(f.block t.tp (ck h.tw) ht).trans h.tw,h.pY,h.tG,h.mF,h.ok,h.gi,h.rl,h.ap,h.fM,h.mG,h.be.trans (f.below h.be.size l),h.sz⟩
theorem fN.cut (h:fN X k d out w):fN (λb=>X b/\b<OK (OJ w)) k d out w:=by obtain⟨p,v,c,g,f,i,j,l⟩:=h.mem;exact⟨⟨h.lo,ck c⟩,p,v,c,g,f,i,j,λb e=>⟨l b e,(cu f b e.symm).2⟩⟩
def Nx (wb:az)(D:Nat->Prop)(d m:Nat)(w:az):Option (Nat×Nat×cj)->Prop
 |none=>w.heap[d]?=OH (E #[bq OQ] 45 (0,0))
 |some (n,o,W)=>∃c t F G S i,i<=m/\w.heap[d]?=OH (E #[aq t.tp] 45 (0,0))/\ef wb c t F G S W i i w/\(t.n=n/\t.o=o)/\¬F d/\¬G d/\∀b,F b\/G b\/b=t.tp->D b
structure k_ (wb:az)(D:Nat->Prop)(d:Nat)(s:Option (Nat×Nat×cj))(m:Nat)(w:az):Prop where
 s:Nx wb D d m w s
 jD:D d
 rA:∀b,D b->OK (OJ wb)<=b
 hD:∀b,D b->b<OK (OJ w)
 be:J (OK (OJ wb)) wb w
theorem k_.fr {Y:Nat->Prop}(h:k_ wb D d s m w)(f:Fr Y w w')(hy:∀b,Y b->¬D b)(p:∀b,Y b->OK (OJ wb)<=b):k_ wb D d s m w':=by
 obtain⟨a,b,c,e,g⟩:=h;refine⟨?_,b,c,λb hb=>aL (e b hb) f.size,g.trans (f.below g.size p)⟩
 match s,a with
 |none,a=>exact(f.block d (ck a) (λh=>hy d h b)).trans a
 |some (n,o,W),⟨c,t,F,G,S,i,u,q,v,x,B,N,k⟩=>
  exact⟨c,t,F,G,S,i,u,(f.block d (ck q) (λh=>hy d h b)).trans q,v.tW f (λb l j=>hy b j (k b (aK l))) (λb l j=>hy b j (k b (aI (aK l)))) (λj=>hy _ j (k _ (aI (aI rfl)))) p,x,B,N,k⟩
theorem k_.more (h:k_ wb D d s m w)(f:m<=j):k_ wb D d s j w:=by
 obtain⟨a,b,c,e,g⟩:=h;refine⟨?_,b,c,e,g⟩
 match s,a with
 |none,a=>exact a
 |some (n,o,W),⟨c,t,F,G,S,i,k,l⟩=>exact⟨c,t,F,G,S,i,aS k f,l⟩
structure eN (wb:az)(X D:Nat->Prop)(k d:Nat)(s:Option (Nat×Nat×cj))(m:Nat)(out:List UInt8)(w:az):Prop where
 t:fN X k d out w
 o:k_ wb D d s m w
 ap:∀b,X b->¬D b
 lU:∀b,X b->OK (OJ wb)<=b
 hX:∀b,X b->b<OK (OJ w)
 gl:hL wb
theorem eN.oS (h:eN wb X D k d s m out w):hL w:=h.gl.below h.o.be
theorem eN.k0 (h:eN wb X D k d s m out w):V w (av k 0)=OH (aq d)/\k<OK (OJ w):=by obtain⟨p,v,hk,_⟩:=h.t.mem;exact⟨by simp[World.cell?,hk],ck hk⟩
def gn (wb:az)(X D:Nat->Prop)(k d:Nat)(s:Option (Nat×Nat×cj))(m:Nat)(out:List UInt8)(w w':az):Prop:=
 ∃X' c,eN wb X' c k d s m out w'/\b9 (λb=>X b\/D b) w (λb=>X' b\/c b) w'
theorem eN.below (h:eN wb X D k d s m out w)(hb:J (OK (OJ w)) w w'):eN wb X D k d s m out w':=
 ⟨h.t.below hb,h.o.fr (Fr.of (X:=λ_=>False) hb) (λ_ e=>e.elim) (λ_ e=>e.elim),h.ap,h.lU,λb e=>aL (h.hX b e) hb.size,h.gl⟩
theorem eN.told (h:eN wb X D k d s m out w)(c:fN X' k d out' w')(tn:b9 X w X' w'):gn wb X D k d s m out' w w':=by have f:∀b,X' b/\b<OK (OJ w')->X b\/OK (OJ w)<=b:=λb e=>tn.sub b e.1;refine⟨λb=>X' b/\b<OK (OJ w'),D,⟨c.cut,h.o.fr tn.fr h.ap h.lU,λb e hD=>(f b e).elim (λe=>h.ap b e hD) (λe=>by have:=h.o.hD b hD;omega),λb e=>(f b e).elim (h.lU b) (aS h.o.be.size),λb e=>e.2,h.gl⟩,tn.fr.mono (λb e=>aK e),λb e=>e.elim (λe=>(f b e).imp aK id) (λe=>aK (aI e))⟩
theorem gn.trans {c e:Nat->Prop}{s2:Option (Nat×Nat×cj)}(h:b9 (λb=>X b\/D b) w (λb=>c b\/e b) w1)(g:gn wb c e k d s2 m out' w1 w'):gn wb X D k d s2 m out' w w':=by obtain⟨X',f,i,j⟩:=g;exact⟨X',f,i,h.trans j⟩
theorem gn.of {s2:Option (Nat×Nat×cj)}(hb:J (OK (OJ w)) w w1)(g:gn wb X D k d s2 m out' w1 w'):gn wb X D k d s2 m out' w w':=gn.trans (b9.of hb) g
theorem eN.Ny (h:eN wb X D k d s m out w)(hb:J (OK (OJ w)) w w2):eN wb X (λb=>b=d) k d OQ m out (OZ w2 ⟨d,0,OQ⟩ (bq OQ))/\b9 (λb=>X b\/D b) w (λb=>X b\/b=d) (OZ w2 ⟨d,0,OQ⟩ (bq OQ)):=by
 have f:Fr (λb=>b=d) w (OZ w2 ⟨d,0,OQ⟩ (bq OQ)):=(Fr.of hb).set d 0 _ rfl;have j:¬X d:=λe=>h.ap d e h.o.jD;have ld:=h.o.hD d h.o.jD;have hs:(OZ w2 ⟨d,0,OQ⟩ (bq OQ)).heap[d]?=OH (E #[bq OQ] 45 (0,0)):=by
  have:∃v,w.heap[d]?=OH (E #[v] 45 (0,0)):=by exact xz
  obtain⟨v,hv⟩:=this
  have hv:=(hb.block d ld).trans hv;simp only [World.setCell,bE,if_true,hv,bH];rfl
 refine⟨⟨h.t.fr f (λb e g=>j (g▸e)),⟨hs,rfl,λb e=>by subst e;exact h.o.rA _ h.o.jD,λb e=>by subst e;exact ck hs,h.o.be.trans (f.below h.o.be.size (λb e=>by subst e;exact h.o.rA _ h.o.jD))⟩,λb e g=>j (g▸e),h.lU,λb e=>aL (h.hX b e) f.size,h.gl⟩,f.mono (λb e=>aI (e▸h.o.jD)),λb e=>aK (e.imp id (λe=>by subst e;exact h.o.jD))⟩
theorem eN.made (h:eN wb X D k d s m out w)(hb:J (OK (OJ w)) w w1)(hn:ef w1 c t F G S W 0 0 w2)(u:Fr (λb=>OK (OJ w)<=b/\b<OK (OJ w1)) w2 w'):eN wb X (λb=>b=d\/F b\/G b\/b=t.tp) k d (OH (t.n,t.o,W)) m out (OZ w' ⟨d,0,OQ⟩ (bq (OH ⟨t.tp,0,OQ⟩)))/\b9 (λb=>X b\/D b) w (λb=>X b\/b=d\/F b\/G b\/b=t.tp) (OZ w' ⟨d,0,OQ⟩ (bq (OH ⟨t.tp,0,OQ⟩))):=by
 have l:J (OK (OJ w)) w w2:=hb.trans (hn.be.mono hb.size)
 have j:J (OK (OJ w)) w w':=l.trans (u.below l.size (λb e=>e.1))
 have hm:ef w c t F G S W 0 0 w':=(hn.base hb.size l).tW u (λb e g=>by have:=hn.fM b e;omega) (λb e g=>by have:=hn.mG b e;omega) (λg=>by have:=hn.mF;omega) (λb e=>e.1)
 have f:Fr (λb=>b=d) w (OZ w' ⟨d,0,OQ⟩ (bq (OH ⟨t.tp,0,OQ⟩))):=(Fr.of j).set d 0 _ rfl;have x:¬X d:=λe=>h.ap d e h.o.jD;have ld:=h.o.hD d h.o.jD;have hs:(OZ w' ⟨d,0,OQ⟩ (bq (OH ⟨t.tp,0,OQ⟩))).heap[d]?=OH (E #[aq t.tp] 45 (0,0)):=by
  have:∃v,w.heap[d]?=OH (E #[v] 45 (0,0)):=by exact xz
  obtain⟨v,hv⟩:=this
  have hv:=(j.block d ld).trans hv;simp only [World.setCell,bE,if_true,hv,bH];rfl
 have lw:d<OK (OJ w1):=aL ld hb.size;have p:∀b,F b\/G b\/b=t.tp->OK (OJ w1)<=b:=λb e=>by
  rcases e with e|e|e
  ·exact hn.fM b e
  ·exact hn.mG b e
  ·rw[e];exact hn.mF
 have ab:OK (OJ (OZ w' ⟨d,0,OQ⟩ (bq (OH ⟨t.tp,0,OQ⟩))))=OK (OJ w'):=by simp[World.setCell]
 have ad:∀b,F b\/G b\/b=t.tp->b<OK (OJ w'):=λb e=>by
  rcases e with e|e|e
  ·exact(cD c t.hp).lt hm.g b e
  ·exact(cG t.b7 t.n t.o t.rb).lt hm.r b e
  ·rw[e];exact ck hm.tw
 have wl:OK (OJ wb)<=OK (OJ w1):=aS h.o.be.size hb.size;have B:¬F d:=λe=>by have:=hn.fM d e;omega
 have N:¬G d:=λe=>by have:=hn.mG d e;omega
 have q:=h.o.rA _ h.o.jD;refine⟨⟨h.t.fr f (λb e g=>x (g▸e)),⟨⟨c,t,F,G,S,0,a4 _,hs,(hm.base h.o.be.size (h.o.be.trans (j.mono h.o.be.size))).tW ((Fr.refl (λb=>b=d) w').set d 0 _ rfl) (λb e g=>B (g▸e)) (λb e g=>N (g▸e)) (λg=>by have:=hn.mF;omega) (λb e=>by rw[e];exact q),⟨rfl,rfl⟩,B,N,λb e=>aI e⟩,aK rfl,λb e=>?_,λb e=>?_,h.o.be.trans (f.below h.o.be.size (λb e=>by rw[e];exact q))⟩,λb e g=>?_,h.lU,λb e=>aL (h.hX b e) f.size,h.gl⟩,f.mono (λb e=>aI (e▸h.o.jD)),λb e=>?_⟩
 ·rcases e with e|e
  ·rw[e];exact q
  ·exact aS wl (p b e)
 ·rw[ab];rcases e with e|e
  ·rw[e];exact aL ld j.size
  ·exact ad b e
 ·rcases g with g|g
  ·exact x (g▸e)
  ·have:=p b g;have:=h.hX b e;have:=hb.size;omega
 ·rcases e with e|e|e
  ·exact aK (aK e)
  ·exact aK (aI (e▸h.o.jD))
  ·exact aI (aS hb.size (p b e))
theorem eN.turn {j l:Nat->Prop}{o:cv}{p:cj}(h:eN wb X D k d s m out w)(hd:w.heap[d]?=OH (E #[aq t.tp] 45 (0,0)))(hi:i<=m)(q:¬F d)(u:¬G d)(n:∀b,F b\/G b\/b=t.tp->D b)(hn:ef wb c t j l o p (i+1) (i+1) w')(f:Fr (λb=>F b\/G b\/b=t.tp) w w')(v:∀b,j b->F b\/OK (OJ w)<=b)(x:∀b,l b->G b\/OK (OJ w)<=b)(B:d≠t.tp):eN wb X (λb=>b=d\/j b\/l b\/b=t.tp) k d (OH (t.n,t.o,p)) (m+1) out w'/\b9 (λb=>X b\/D b) w (λb=>X b\/b=d\/j b\/l b\/b=t.tp) w':=by
 have ld:=h.o.hD d h.o.jD;have old:∀b,j b\/l b\/b=t.tp->D b\/OK (OJ w)<=b:=λb e=>by
  rcases e with e|e|e
  ·exact(v b e).imp (λe=>n b (aK e)) id
  ·exact(x b e).imp (λe=>n b (aI (aK e))) id
  ·exact aK (n b (aI (aI e)))
 have N:∀b,j b\/l b\/b=t.tp->b<OK (OJ w'):=λb e=>by
  rcases e with e|e|e
  ·exact(cD c t.hp).lt hn.g b e
  ·exact(cG t.b7 t.n t.o t.rb).lt hn.r b e
  ·rw[e];exact ck hn.tw
 have nd:¬(F d\/G d\/d=t.tp):=λe=>by
  rcases e with e|e|e
  ·exact q e
  ·exact u e
  ·exact B e
 refine⟨⟨h.t.fr f (λb e g=>h.ap b e (n b g)),⟨⟨c,t,j,l,o,i+1,aa,(f.block d ld nd).trans hd,hn,⟨rfl,rfl⟩,λe=>(v d e).elim q (λe=>by omega),λe=>(x d e).elim u (λe=>by omega),λb e=>aI e⟩,aK rfl,λb e=>?_,λb e=>?_,hn.be⟩,λb e g=>?_,h.lU,λb e=>aL (h.hX b e) f.size,h.gl⟩,f.mono (λb e=>aI (n b e)),λb e=>?_⟩
 ·rcases e with e|e
  ·rw[e];exact h.o.rA _ h.o.jD
  ·exact(old b e).elim (h.o.rA b) (aS h.o.be.size)
 ·rcases e with e|e
  ·rw[e];exact aL ld f.size
  ·exact N b e
 ·rcases g with g|g
  ·exact h.ap b e (g▸h.o.jD)
  ·rcases old b g with g|g
   ·exact h.ap b e g
   ·have:=h.hX b e;omega
 ·rcases e with e|e|e
  ·exact aK (aK e)
  ·exact aK (aI (e▸h.o.jD))
  ·exact(old b e).imp aI id
theorem eN.fr {Y:Nat->Prop}(h:eN wb X D k d s m out w)(f:Fr Y w w')(c:∀b,X b->¬Y b)(hy:∀b,Y b->¬D b)(g:∀b,Y b->OK (OJ wb)<=b):eN wb X D k d s m out w':=
 ⟨h.t.fr f c,h.o.fr f hy g,h.ap,h.lU,λb e=>aL (h.hX b e) f.size,h.gl⟩
theorem eN.more (h:eN wb X D k d s m out w)(b:m<=j):eN wb X D k d s j out w:={h with o:=h.o.more b}
end
def gb (v:Int×Int):ByteArray:=bs (rz v)
theorem Dq {X:Nat->Prop}{k d:Nat}{B:List UInt8}{w0 w:az}(h:fN X k d B w0)(ag:hL w0)(hb:J (OK (OJ w0)) w0 w)(L:List ByteArray)(h1:0<OG L)(h2:OG L<=10)(g cp:Nat)(hrow:aC w (OK (OJ w0)) 9 1 (Z (au g) (OG L) cp) (OG L) (L.map Value.string))(f:List (Int×Int))(ai:Option bB)(bb:Nat)(al:dQ w0 ai f)(hk:∀v∈f,gK v.2)(hn:OG f<=20000)(hs:OG B+OG (txt (L++f.map gb))<=140737488355328):
 M O 58 #[aq k,Z ai (OG f) bb,Z (au g) (OG L) cp] w λe w'=>(∃v,e=OL v)/\∃o,fN o k d (B++txt (L++f.map gb)) w'/\b9 X w0 o w':=by
 obtain⟨bd,be,bg,bi,bl⟩:=bM Dd;have am:∀wr l r T,T=L++f.map gb->J (OK (OJ w0)) w0 wr->aC wr (OK (OJ w0)) 9 1 (Z (au r) (OG T) l) (OG T) (T.map Value.string)->M O 22 #[aq k,Z (au r) (OG T) l] wr λe w'=>(∃v,e=OL v)/\∃o,fN o k d (B++txt (L++f.map gb)) w'/\b9 X w0 o w':=λwr l r T ab an hr=>by
  have hc:OG T<=l:=by
   rcases hr.2 with⟨e,_⟩|⟨g2,c2,b4,e,_,_,hc,_⟩
   ·cases e
   ·cases e;exact hc
  rw[<-ab] at hs⊢;refine(rx (h.below an) T _ l (iU.of hr) (by rw[ab,aX];omega) hc (by rw[ab];simp;omega) hs).mono ?_;rintro e w' ⟨a,o,b,c⟩
  exact⟨a,o,b,(b9.of an).trans c⟩
 have ao:=cg am;have bn:=cg hb;have bo:=cg hrow;have bp:=cg al;have br:=cg hk;have bs:=cg ag;clear am hb hrow al hk ag h hs;go_enter func58,ntmps58;go_wp2_with fail
 go_loopw [2,10] (λwv iv wr=>∃(i r l:Nat)(T:List ByteArray),i<=OG f/\iv=ak i/\wv=Z (au r) (OG T) l/\aA (T=L++(f.take i).map gb)/\aA (aC wr (OK (OJ w0)) 9 1 (Z (au r) (OG T) l) (OG T) (T.map Value.string))/\aA (J (OK (OJ w0)) w0 wr)) (λ_ iv _=>OG f-K (bG iv))
 case atStart=>exact⟨0,g,cp,L,a4 _,rfl,rfl,by show L=_;simp,bo,bn⟩
 case round=>
  obtain⟨i,r,l,T,hi,rfl,rfl,q,F,p⟩:=hrel;by_cases N:i<OG f
  ·obtain⟨b5,b6,bt,l0,hc⟩:=bp.o aa;obtain⟨S,y1⟩:=hc i N;have S:=(p.o.cell l0).trans S;have y1:=(p.o.cell l0).trans y1;subst bt;have q0:(0:Int)<=(i:Int):=aa;have q1:(i:Int)<(OG f:Int):=aa;have ap:=br.o (U f i (0,0)) (by rw[aN,aP N];exact a_ N)
   have bx:=cg (show L++(f.take (i+1)).map gb=T++[gb (U f i (0,0))] by rw[q.o,uc,aN,aP N,bU,<-bf];rfl)
   have b7:OG T<=20010:=by have:=q.o;rw[this,aX,a5,List.length_take];omega
   generalize U f i (0,0)=x at*;obtain⟨m,n⟩:=x;dsimp only at S y1 ap;have ar:=aw wr (E #[OP OM m,OP OM n] 139)
   have ad:=cg (p.o.trans (ar.mono p.o.size))
   have aB:=cg (gq F.o (E #[OP OM m,OP OM n] 139))
   have P:=Ns m n ap _ (bs.o.below ad.o)
   have z0:V (bu wr (E #[OP OM m,OP OM n] 139)) (av (OK (OJ wr)) 0)=OH (ak m):=jC (aO _ _) rfl;have b8:V (bu wr (E #[OP OM m,OP OM n] 139)) (av (OK (OJ wr)) 1)=OH (ak n):=jC (aO _ _) rfl;clear hc ar F p q
   go_upto_region 3 with fail
   generalize bu wr (E #[OP OM m,OP OM n] 139)=w3 at*;generalize OK (OJ wr)=ca at*;clear S y1;go_wp2_with (first|(at_builtin;refine wpList_append_lies _ rfl _ _ 22 rfl (OK (OJ w0)) 9 bd (.string .empty) 1 16 underlying22 be bg bi bl rfl ae (Z (OH ⟨r,0,OQ⟩) (OG T) l) (OG T) (T.map Value.string) rfl (gq W.o.1 _) ⟨OK (OJ s),0,OQ⟩ 1 1 [.string (gb (m,n))] rfl rfl ?_ ?_ ae (by unfold bL;omega) aa (by simp;omega) _ rfl ?_;(intro j u t;match j,t with|0,t=>(cases t;simp[Addr.add];rfl)|k+1,t=>(simp at t));(intro u aF;simp at aF;subst aF;rfl);intro aR aV a0 b0 b1 cb cc)|(go_at_call 91;refine P.mono ?_;rintro e s ⟨rfl,a1⟩;have W:aA (aC s (OK (OJ w0)) 9 1 (Z (OH ⟨r,0,OQ⟩) (OG T) l) (OG T) (T.map Value.string)/\J (OK (OJ w0)) w0 s):=⟨cK aB.o (λk e=>a1.block k (cu aB.o k e).2),ad.o.trans (a1.mono ad.o.size)⟩;have b2:=W.o.2.size;have b3:=aw s (E #[.string (gb (m,n))] 9)))
   have a2:aA (aC a0 (OK (OJ w0)) 9 1 (Z (au aR) (OG T+1) aV) (OG T+1) ((T++[gb (m,n)]).map Value.string)/\J (OK (OJ w0)) w0 a0):=⟨by rw[bU];exact b0,(W.o.2.trans (b3.mono b2)).grown b1 (by simp;omega) (λb e=>(cu W.o.1 b e.symm).1)⟩
   go_roundw
   case rel=>exact⟨i+1,aR,aV,T++[gb (m,n)],aa,aj,by rw[aX];rfl,bx.o.symm,by rw[aX];exact a2.o.1,a2.o.2⟩
   case measure=>simp[bG];omega
  ·obtain rfl:i=OG f:=aa;have P:=ao.o _ l r T (by have:=q.o;rwa [bc] at this) p.o F.o;clear F q ao;exact Da
def gY (k:Int):List UInt8:=if k<0\/17<=k then[] else stepW (K k)
theorem xF (k:Int)(w:az)(b:hL w):M O 12 #[ak k] w λe w'=>e=OL (.string (bs (gY k)))/\w=w':=by
 unfold gY;by_cases h0:k<0
 ·rw[aM (aK h0)];exact xA
 ·by_cases d:17<=k
  ·rw[aM (aI d)];exact xA
  ·rw[aJ aa];obtain⟨n,rfl⟩:=Int.eq_ofNat_of_zero_le (show 0<=k by omega)
   have c:=b.M_ n aa;have q0:(0:Int)<=(n:Int):=aa;have q1:(n:Int)<17:=aa;exact xA
def p0 (s:List UInt8):Nat->Nat->Int
 |0,_=>0
 |n+1,i=>if stepW i=s then i else p0 s n (i+1)
def fH (s:List UInt8):Int:=p0 s 16 1
theorem xG (s:ByteArray)(w:az)(d:hL w):M O 62 #[.string s] w λe w'=>e=OL (ay #[ak (fH s.data.toList),bA (fH s.data.toList !=0)])/\w=w':=by
 have g:=cg d;clear d;go_enter func62,ntmps62;go_wp2_with fail
 go_loopw [4] (λiv wr=>∃i:Nat,iv=ak i/\1<=i/\i<=17/\aA (fH s.data.toList=p0 s.data.toList (17-i) i)/\w=wr) (λiv _=>17-K (bG iv))
 case atStart=>exact⟨1,rfl,ae,ae,rfl,rfl⟩
 case round=>
  obtain⟨i,rfl,j,k,c,rfl⟩:=hrel;by_cases hi:i<=16
  ·have q:(i:Int)<=16:=aa;have P:=xF i w g.o;rw[show gY i=stepW i by unfold gY;rw[aJ aa];rfl] at P;have f:=cg (show p0 s.data.toList (17-i) i=if stepW i=s.data.toList then(i:Int) else p0 s.data.toList (16-i) (i+1) by rw[show 17-i=(16-i)+1 by omega];rfl)
   by_cases he:stepW i=s.data.toList
   ·have hB:((bs (stepW i)).toList==s.toList)=C:=by rw[Lib.toList_data,Lib.toList_data,<-he];simp[bs]
    have b:=cg (show fH s.data.toList=i by rw[c.o,f.o,aM he])
    clear he;go_wp2_with (go_at_call 12;refine P.mono ?_;rintro e w1 ⟨rfl,rfl⟩)
    go_ret2;rw[b.o];exact⟨by simp;omega,rfl⟩
   ·have hB:((bs (stepW i)).toList==s.toList)=OU:=by rw[Lib.toList_data,Lib.toList_data];simpa[bs] using he
    have b:=cg (show fH s.data.toList=p0 s.data.toList (17-(i+1)) (i+1) by rw[c.o,f.o,aJ he,show 17-(i+1)=16-i by omega])
    clear he;go_wp2_with (go_at_call 12;refine P.mono ?_;rintro e w1 ⟨rfl,rfl⟩)
    go_roundw
    case rel=>exact⟨i+1,aj,aa,aa,b,trivial⟩
    case measure=>simp[bG];omega
  ·obtain rfl:i=17:=aa;have b:=cg (show fH s.data.toList=0 from c.o)
   go_wp2_with fail;go_ret2;rw[b.o];exact⟨rfl,rfl⟩
def tX (c:Bool)(f:a7)(b:List a7):List Value:=if c=C then b++[f] else b
structure p3 (base sb:Nat)(Dr:List a7)(w:az):Prop where
 lo:base<=sb
 mem:∃v,w.heap[sb]?=OH (E #[v] 165 (0,0))/\aC w base 168 1 v (OG Dr) Dr/\OY v≠OH sb
theorem Nz:(prog.info? 168).map (λi=>(i.zero,i.size,i.bytes))=OH (OH .nilFunc,1,8):=ah
theorem NA {base c:Nat}{d:List a7}{w:az}(h:p3 base c d w)(hB:base<=OK (OJ w))(hl:OG d<=100)(n:Bool)(f:Nat)(bx:Nat):
 M O 118 #[bA n,.func (.func f) #[] #[aq bx],aq c] w λe w'=>(∃v,e=OL v)/\p3 base c (tX n (.func (.func f) #[] #[aq bx]) d) w'/\Fr (λb=>base<=b) w w':=by
 obtain⟨S,hi,W,ab,ad⟩:=bM Nz;obtain⟨v,hk,hrow,q⟩:=h.mem;obtain⟨ao,o,cap,rfl⟩:=xE hrow;have c0:V w (av c 0)=OH (Z ao o cap):=jC hk rfl;have H:=ge h.lo q hB;cases n
 ·go_enter func118,ntmps118;go_wp2_with fail;go_end0;exact⟨⟨_,rfl⟩,h,Fr.refl _ _⟩
 ·have s:=aw w (E #[.func (.func f) #[] #[bq (OH ⟨bx,0,OQ⟩)]] 168)
  have t:=(s.block c (ck hk)).trans hk;have l:=cY t (gq hrow (E #[.func (.func f) #[] #[bq (OH ⟨bx,0,OQ⟩)]] 168))
  clear h q hrow hk t;go_enter func118,ntmps118;go_wp2_with (at_builtin;refine wpList_append_lies _ rfl _ _ 165 rfl base 168 S .nilFunc 1 8 underlying165 hi W ab ad rfl ae (Z ao o cap) (OG d) d rfl l.o.2 ⟨OK (OJ w),0,OQ⟩ 1 1 [.func (.func f) #[] #[aq bx]] rfl rfl ?_ ?_ ae (by unfold bL;omega) aa (by simp;omega) _ rfl ?_;(intro j u i;match j,i with|0,i=>(cases i;simp[Addr.add])|k+1,i=>(simp at i));(intro u x;simp at x;subst x;rfl);intro ag ai p B F al am;have m:=(F.block c (ck l.o.1) (λe=>H.o.2.1 e.symm)).trans l.o.1;have an:V p (av c 0)=OH (Z ao o cap):=jC m rfl;have ap:bF p (av c 0)=OU:=(by simp[World.frozen?,m]))
  go_end0;have N:OY (Value.slice (au ag) (OG d+1) ai)≠OH c:=by
   rcases B.2 with⟨e,_⟩|⟨g,c2,ar,e,_,hg,_⟩
   ·cases e
   ·cases e;intro e;cases e;rw[m] at hg;exact absurd (j3 hg) ac
  refine⟨⟨_,rfl⟩,⟨H.o.1,_,by simp only [World.setCell,bE,if_true,m,bH];simp,?_,N⟩,?_⟩
  ·unfold tX;rw[aM rfl,aX];exact il B ((Fr.refl (λb=>b=c) p).set c 0 _ rfl) (λb e hb=>N (e.symm.trans (congrArg OH hb)))
  ·exact(((Fr.of s).grown F (λb e=>aK (cu l.o.2 b e.symm).1)).set c 0 _ H.o.1)
def kl (bx:Nat)(i:Nat):Value:=.func (.func (match i with|0=>120|1=>121|2=>122|3=>123|_=>124)) #[] #[aq bx]
def eW (b:Bool)(i:Nat)(l:List Nat):List Nat:=if b=C then l++[i] else l
theorem NB (bx:Nat)(b:Bool)(i:Nat)(l:List Nat):tX b (kl bx i) (l.map (kl bx))=(eW b i l).map (kl bx):=by unfold tX eW;cases b<;>simp
def slt (k:Int):List Nat:=eW (k==1||k==5) 4 (eW (bits .and OM (cS k) 4!=0) 3 (eW (k==11||k==12) 2 (eW (bits .and OM (cS k) 2!=0) 1 (eW (bits .and OM (cS k) 1!=0) 0 []))))
theorem m7 (b:Bool)(i:Nat)(l:List Nat):OG (eW b i l)<=OG l+1:=by unfold eW;split<;>simp
theorem p3.eB {base b:Nat}{c d:List a7}{w:az}(h:p3 base b c w)(e:c=d):p3 base b d w:=e▸h
theorem NC {w:az}{b c n m:Nat}{e:bI}{v:a7}{l:List a7}(h:aC w b e m v n l)(hb:c<=b):aC w c e m v n l:=by
 refine⟨h.1,?_⟩
 rcases h.2 with h|⟨g,cap,d,f,i,j⟩
 ·exact aK h
 ·exact aI ⟨g,cap,d,f,aS hb i,j⟩
structure m9 (w:az)(xb:Nat)(k R A B I n:Int)(bx:Nat)(L:List Nat)(w1:az):Prop where
 x:w1.heap[xb]?=OH (cA k R A B I n)
 b:w1.heap[bx]?=OH (E #[aq xb] 167 (0,0))
 lx:xb<bx
 s:p3 (bx+1) (bx+1) (L.map (kl bx)) w1
 e:bx=OK (OJ w)
 be:J (OK (OJ w)) w w1
section
variable {w w1:az}{xb bx:Nat}{k R A B I n:Int}{L:List Nat}
theorem m9.cells (h:m9 w xb k R A B I n bx L w1):V w1 (av xb 0)=OH (ak k)/\V w1 (av bx 0)=OH (aq xb):=⟨(dZ h.x).1,jC h.b rfl⟩
theorem m9.add (h:m9 w xb k R A B I n bx L w1)(hl:OG L<=10)(c:Bool)(i:Nat):M O 118 #[bA c,kl bx i,aq (bx+1)] w1 λe w'=>(∃v,e=OL v)/\m9 w xb k R A B I n bx (eW c i L) w':=by
 have hs:=ck h.b;refine(NA h.s aa (by simp;omega) c _ bx).mono ?_;rintro e w' ⟨f,g,d⟩
 refine⟨f,(d.block xb (ck h.x) (by have:=h.lx;omega)).trans h.x,(d.block bx hs aa).trans h.b,h.lx,g.eB (NB bx c i L),h.e,?_⟩
 exact h.be.trans (d.below h.be.size (λb hb=>by have:=h.e;omega))
end
theorem ND (c:Nat)(k R A B I n:Int)(w:az)(j:w.heap[c]?=OH (cA k R A B I n)):
 M O 92 #[aq c] w λe w'=>∃v bx,e=OL v/\aC w' (OK (OJ w)) 168 1 v (OG (slt k)) ((slt k).map (kl bx))/\OK (OJ w)<=bx/\w'.heap[bx]?=OH (E #[aq c] 167 (0,0))/\J (OK (OJ w)) w w':=by
 have l:=ck j;have W:=aw w (E #[bq (OH ⟨c,0,OQ⟩)] 167)
 have m:=W.alloc ac (E #[Z OQ 0 0] 165)
 have o:m9 w c k R A B I n (OK (OJ w)) [] (bu (bu w (E #[bq (OH ⟨c,0,OQ⟩)] 167)) (E #[Z OQ 0 0] 165)):=by
  refine⟨(m.block c l).trans j,?_,l,⟨aG _,Z OQ 0 0,by have:=aO (bu w (E #[bq (OH ⟨c,0,OQ⟩)] 167)) (E #[Z OQ 0 0] 165);rwa [bh] at this,a9 _ _ _ _,by simp[Value.ownBlock]⟩,rfl,m⟩
  exact uZ
 obtain⟨c0,_⟩:=o.cells;have ab:aA (∀{w':az},m9 w c k R A B I n (OK (OJ w)) (slt k) w'->∀v,w'.heap[OK (OJ w)+1]?=OH (E #[v] 165 (0,0))->aC w' (OK (OJ w)) 168 1 v (OG (slt k)) ((slt k).map (kl (OK (OJ w))))/\OK (OJ w)<=OK (OJ w)/\w'.heap[OK (OJ w)]?=OH (E #[aq c] 167 (0,0))/\J (OK (OJ w)) w w'):=λ{w'} S v hv=>by obtain⟨v2,ad,ag,_⟩:=S.s.mem;rw[hv] at ad;cases ad;rw[a5] at ag;exact⟨NC ag aa,aG _,S.b,S.be⟩
 have an:OG (slt k)<=5:=by exact C_
 have d:∀{w1 L}(p b:Bool)(i:Nat),m9 w c k R A B I n (OK (OJ w)) L w1->OG L<=10->b=p->M O 118 #[bA b,kl (OK (OJ w)) i,aq (OK (OJ w)+1)] w1 λe w'=>(∃v,e=OL v)/\m9 w c k R A B I n (OK (OJ w)) (eW p i L) w':=λp b i S hl e=>by subst e;exact S.add hl b i
 clear j l W;have l1:=m7 (bits .and OM (cS k) 1!=0) 0 [];have l2:=m7 (bits .and OM (cS k) 2!=0) 1 (eW (bits .and OM (cS k) 1!=0) 0 [])
 have l3:=m7 (k==11||k==12) 2 (eW (bits .and OM (cS k) 2!=0) 1 (eW (bits .and OM (cS k) 1!=0) 0 []))
 have l4:=m7 (bits .and OM (cS k) 4!=0) 3 (eW (k==11||k==12) 2 (eW (bits .and OM (cS k) 2!=0) 1 (eW (bits .and OM (cS k) 1!=0) 0 [])))
 simp only [yB] at l1;have f:=cY (show OG (eW (bits .and OM (cS k) 1!=0) 0 [])<=10/\OG (eW (bits .and OM (cS k) 2!=0) 1 (eW (bits .and OM (cS k) 1!=0) 0 []))<=10 by omega) (show OG (eW (k==11||k==12) 2 (eW (bits .and OM (cS k) 2!=0) 1 (eW (bits .and OM (cS k) 1!=0) 0 [])))<=10/\OG (eW (bits .and OM (cS k) 4!=0) 3 (eW (k==11||k==12) 2 (eW (bits .and OM (cS k) 2!=0) 1 (eW (bits .and OM (cS k) 1!=0) 0 []))))<=10 by omega)
 clear l1 l2 l3 l4 an;have q:aA (slt k=eW (k==1||k==5) 4 (eW (bits .and OM (cS k) 4!=0) 3 (eW (k==11||k==12) 2 (eW (bits .and OM (cS k) 2!=0) 1 (eW (bits .and OM (cS k) 1!=0) 0 []))))):=rfl;obtain⟨s,t⟩:∃s,s=(k==11||k==12):=⟨_,rfl⟩
 obtain⟨u,x⟩:∃u,u=(k==1||k==5):=⟨_,rfl⟩
 rw[<-t] at f q;rw[<-x] at q;have ap:=cg t;have ar:=cg x;clear t x;cases b11:(k==11)<;>cases b1:(k==1)
 all_goals
  go_enter func92,ntmps92
  go_upto_region 4 with(go_at_call 119;refine(zV k _).mono ?_;rintro e w1 ⟨rfl,rfl⟩)
  generalize bu (bu w (E #[bq (OH ⟨c,0,OQ⟩)] 167)) (E #[Z OQ 0 0] 165)=w1 at*;clear c0 m
  go_upto_region 5 with(go_at_call 118;refine(d (bits .and OM (cS k) 1!=0) _ 0 o ac rfl).mono ?_;rintro e aF ⟨⟨v,rfl⟩,ai⟩)
  clear o
  go_upto_region 6 with(go_at_call 118;refine(d (bits .and OM (cS k) 2!=0) _ 1 ai f.o.1.1 rfl).mono ?_;rintro e aR ⟨⟨aV,rfl⟩,F⟩)
  obtain⟨c0,c1⟩:=F.cells;clear ai
  go_upto_region 7 with(go_at_call 118;refine(d s _ 2 F f.o.1.2 (by rw[ap.o];simp_all)).mono ?_;rintro e a0 ⟨⟨a1,rfl⟩,al⟩)
  clear F c0 c1
  go_upto_region 8 with(go_at_call 118;refine(d (bits .and OM (cS k) 4!=0) _ 3 al f.o.2.1 rfl).mono ?_;rintro e a2 ⟨⟨bb,rfl⟩,N⟩)
  obtain⟨c0,c1⟩:=N.cells;clear al
  go_upto_region 9 with(go_at_call 118;refine(d u _ 4 N f.o.2.2 (by rw[ar.o];simp_all)).mono ?_;rintro e aB ⟨⟨bd,rfl⟩,g⟩)
  clear N c0 c1;rw[<-q.o] at g;obtain⟨am,hz,_⟩:=g.s.mem;have be:V aB (av (OK (OJ w)+1) 0)=OH am:=jC hz rfl;obtain⟨ao,bg,cap,rfl⟩:=xE (ab.o g am hz).1;have R:=ab.o g _ hz;clear g hz;go_wp2_with fail;go_ret;exact⟨_,_,rfl,R.1,R.2.1,R.2.2.1,R.2.2.2⟩
def m8 (x:S6)(i:Nat)(m:Int):S6:=
 match i with
 |0=>{x with R:=m}
 |1=>{x with A:=m}
 |2=>{x with I:=m}
 |3=>{x with B:=m}
 |_=>{x with n:=m}
def hY (x:S6):Obj:=cA x.k x.R x.A x.B x.I x.n
theorem NE {c bx:Nat}{x:S6}{w:az}(hx:w.heap[c]?=OH (hY x))(hb:w.heap[bx]?=OH (E #[aq c] 167 (0,0)))(m:Int):
 M O 120 #[ak m,aq bx] w λe w'=>(∃v,e=OL v)/\w'.heap[c]?=OH (hY (m8 x 0 m))/\Fr (λb=>b=c) w w':=by
 have c0:V w (av bx 0)=OH (aq c):=jC hb rfl;obtain⟨z0,d,f,g,i,j⟩:=dZ hx;have k:bF w (av c 1)=OU:=by simp[World.frozen?,hx,hY,cA]
 go_enter func120,ntmps120;exact rj
theorem NF {c bx:Nat}{x:S6}{w:az}(hx:w.heap[c]?=OH (hY x))(hb:w.heap[bx]?=OH (E #[aq c] 167 (0,0)))(m:Int):
 M O 121 #[ak m,aq bx] w λe w'=>(∃v,e=OL v)/\w'.heap[c]?=OH (hY (m8 x 1 m))/\Fr (λb=>b=c) w w':=by
 have c0:V w (av bx 0)=OH (aq c):=jC hb rfl;obtain⟨z0,d,f,g,i,j⟩:=dZ hx;have k:bF w (av c 2)=OU:=by simp[World.frozen?,hx,hY,cA]
 go_enter func121,ntmps121;exact rj
theorem NG {c bx:Nat}{x:S6}{w:az}(hx:w.heap[c]?=OH (hY x))(hb:w.heap[bx]?=OH (E #[aq c] 167 (0,0)))(m:Int):
 M O 122 #[ak m,aq bx] w λe w'=>(∃v,e=OL v)/\w'.heap[c]?=OH (hY (m8 x 2 m))/\Fr (λb=>b=c) w w':=by
 have c0:V w (av bx 0)=OH (aq c):=jC hb rfl;obtain⟨z0,d,f,g,i,j⟩:=dZ hx;have k:bF w (av c 4)=OU:=by simp[World.frozen?,hx,hY,cA]
 go_enter func122,ntmps122;exact rj
theorem NH {c bx:Nat}{x:S6}{w:az}(hx:w.heap[c]?=OH (hY x))(hb:w.heap[bx]?=OH (E #[aq c] 167 (0,0)))(m:Int):
 M O 123 #[ak m,aq bx] w λe w'=>(∃v,e=OL v)/\w'.heap[c]?=OH (hY (m8 x 3 m))/\Fr (λb=>b=c) w w':=by
 have c0:V w (av bx 0)=OH (aq c):=jC hb rfl;obtain⟨z0,d,f,g,i,j⟩:=dZ hx;have k:bF w (av c 3)=OU:=by simp[World.frozen?,hx,hY,cA]
 go_enter func123,ntmps123;exact rj
theorem NI {c bx:Nat}{x:S6}{w:az}(hx:w.heap[c]?=OH (hY x))(hb:w.heap[bx]?=OH (E #[aq c] 167 (0,0)))(m:Int):
 M O 124 #[ak m,aq bx] w λe w'=>(∃v,e=OL v)/\w'.heap[c]?=OH (hY (m8 x 4 m))/\Fr (λb=>b=c) w w':=by
 have c0:V w (av bx 0)=OH (aq c):=jC hb rfl;obtain⟨z0,d,f,g,i,j⟩:=dZ hx;have k:bF w (av c 5)=OU:=by simp[World.frozen?,hx,hY,cA]
 go_enter func124,ntmps124;exact rj
end Go.Proofs.YtjckpdepffejnaaGreatDoor
