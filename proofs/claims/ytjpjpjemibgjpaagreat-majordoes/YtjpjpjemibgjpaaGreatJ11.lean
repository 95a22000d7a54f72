import Derived.Test.YtjpjpjemibgjpaaGreatJ10
import Derived.Test.YtjpjpjemibgjpaaGreatJ07
import Derived.Test.YtjpjpjemibgjpaaGreatJ02
import Derived.Deep.DeepCutAuto
import Derived.Deep.LoopGhost
import Derived.Test.YtjpjpjemibgjpaaGreatJ08
import Derived.Test.YtjpjpjemibgjpaaGreatJ00
import Derived.Test.YtjpjpjemibgjpaaGreatJ01
import Derived.Test.YtjpjpjemibgjpaaGreatJ06
import Derived.Test.YtjpjpjemibgjpaaGreatJ05
import Derived.Test.YtjpjpjemibgjpaaGreatJ04
import Derived.Test.YtjpjpjemibgjpaaGreatJ03
namespace Go.Proofs.YtjpjpjemibgjpaaGreat
set_option maxRecDepth 100000
set_option maxHeartbeats 8000000
open Tryz
open Go.RowKit W Kp bY
section
variable {rp rb:Nat}{bS bT:Int}{F:Nat->Prop}{s:b_}{w:World}
def gY (a:Bool)(T:List cE)(i:Nat):List Bool:=(T.take i).map (gA a)++List.replicate (T.length-i) false
theorem xA (a:Bool)(T:List cE)(i:Nat)(hi:i<=T.length):(gY a T i).length=T.length:=by unfold gY;simp;omega
theorem xB (a:Bool)(T:List cE)(i:Nat)(hi:i<T.length):(gY a T i).set i (gA a (T.getD i t0))=gY a T (i+1):=by
 unfold gY;have hl:((T.take i).map (gA a)).length=i:=by simp;omega
 rw[List.set_append_right _ _ I,hl,Nat.sub_self,List.take_succ_eq_append_getElem hi,bc,show T.length-i=(T.length-(i+1))+1 by omega,List.replicate_succ,List.set_cons_zero,aU]
 congr 1
 rw[aj,am hi];rfl
theorem xC (h:(cf rp rb bS bT).J F s w)(a:Bool)(hl:s.T.length<=10000)(A:∀v∈s.rs,v.1=3->0<=v.2/\v.2<s.T.length):
 Calls prog 92 #[af rp,.bool a] w fun e w'=>∃b,e=.returned (.slice (ag b) s.T.length s.T.length)/\w'.ownsRow w.heap.size 4 1 (.slice (ag b) s.T.length s.T.length) s.T.length ((iG s.T s.rs a).map Value.bool)/\Below w.heap.size w w':=by
 obtain⟨U,W,X,Y,ad⟩:=info_parts pa;have B:Hid ((cf rp rb bS bT).J F s w):=h;have ai:Hid (∀v∈s.rs,v.1=3->0<=v.2/\v.2<s.T.length):=A;obtain⟨al,cT,c0,_⟩:=jq h;clear h A;go_enter func92,ntmps92;go_wp2_with (at_make;refine wpList_make_full _ rfl _ _ 145 rfl w.heap.size 4 U (.bool false) 1 Tryz.underlying145 W X Y .i64 .i64 _ _ s.T.length rfl rfl I I (by rw[ad];omega) (by unfold maxLen;omega) bJ ?_;intro w1 C D)
 have E:Below w.heap.size w w1:=(Below.refl _ w).grown D bJ (fun _ h=>by cases h)
 have G:Hid (w1.ownsRow w.heap.size 4 1 (.slice (ag w.heap.size) s.T.length s.T.length) s.T.length ((gY a s.T 0).map Value.bool)/\Below w.heap.size w w1):=⟨by
  have e:gY a s.T 0=List.replicate s.T.length false:=by unfold gY;simp
  rw[e];exact mm C,E⟩
 have J:Hid (∀w',Below w.heap.size w w'->(cf rp rb bS bT).J F s w'):=fun w' ar=>(cf rp rb bS bT).below B.out ar;clear C D E c0 B
 go_loopw [6] (fun iv wr=>∃i:Nat,i<=s.T.length/\iv=ae i/\Hid (wr.ownsRow w.heap.size 4 1 (.slice (ag w.heap.size) s.T.length s.T.length) s.T.length ((gY a s.T i).map Value.bool)/\Below w.heap.size w wr)) (fun iv _=>s.T.length-(intOf iv).toNat)
 case atStart=>exact⟨0,aA _,rfl,G⟩
 case round=>
  clear G;obtain⟨i,hi,rfl,H⟩:=hrel;have d:=J.out wr H.out.2;obtain⟨al,cT,c0,_,o⟩:=jq d;by_cases K:i<s.T.length
  ·obtain⟨t,ht⟩:∃t,s.T[i]?=some t:=⟨_,am K⟩
   obtain⟨b,a0,fc,rfl,a1,y1,a2,a3,_⟩:=o i t ht;have L:s.T.getD i t0=t:=by rw[aj,ht];rfl
   have f:Hid ((gY a s.T i).set i (gA a t)=gY a s.T (i+1)):=by show _=_;rw[<-L];exact xB a s.T i K
   have ax:=xA a s.T i hi;have l:((gY a s.T i).map Value.bool)[i]?=some (.bool ((gY a s.T i).getD i false)):=by rw[aX,am I,aj,am I];rfl
   obtain⟨u0,aB⟩:=eO H.out.1 l;have M:Hid (∀v:Bool,(wr.setCell ⟨w.heap.size,i,none⟩ (.bool v)).ownsRow w.heap.size 4 1 (.slice (ag w.heap.size) s.T.length s.T.length) s.T.length (((gY a s.T i).set i v).map Value.bool)/\Below w.heap.size w (wr.setCell ⟨w.heap.size,i,none⟩ (.bool v))):=fun v=>⟨by rw[List.map_set];exact h7 H.out.1 i _,H.out.2.trans (((Fr.refl (fun k=>k=w.heap.size) wr).set w.heap.size i _ rfl).below H.out.2.size (fun k e=>Nat.le_of_eq (Eq.symm e)))⟩
   have q0:(0:Int)<=(i:Int):=I;have q1:(i:Int)<(s.T.length:Int):=I;obtain⟨kd,aF,N,O⟩:=t;dsimp only at*;have g:=M.out (gA a (kd,aF,N,O))
   rw[f.out] at g;have c:Hid _:=g;clear o d L f l ax g M H ht;unfold gA at c;dsimp only at c;cases N
   ·simp only [Bool.false_and] at c;go_wp2_with fail;go_roundw
    case rel=>exact⟨i+1,I,ac,c⟩
    case measure=>simp[intOf];omega
   ·cases O
    ·cases a
     ·simp only [Bool.not_false,Bool.and_self] at c;go_wp2_with fail;go_roundw
      case rel=>exact⟨i+1,I,ac,c⟩
      case measure=>simp[intOf];omega
     ·simp only [Bool.not_false,Bool.not_true,Bool.and_self,Bool.and_false] at c;go_wp2_with fail;go_roundw
      case rel=>exact⟨i+1,I,ac,c⟩
      case measure=>simp[intOf];omega
    ·simp only [Bool.not_true,Bool.and_false,Bool.false_and] at c;go_wp2_with fail;go_roundw
     case rel=>exact⟨i+1,I,ac,c⟩
     case measure=>simp[intOf];omega
  ·obtain rfl:i=s.T.length:=I;have P:Hid (wr.ownsRow w.heap.size 4 1 (.slice (ag w.heap.size) s.T.length s.T.length) s.T.length ((((s.rs.take 0).foldl f1 (s.T.map (gA a)))).map Value.bool)/\Below w.heap.size w wr):=⟨by
    have e:gY a s.T s.T.length=s.T.map (gA a):=by unfold gY;simp
    have:=H.out.1;rw[e] at this
    simpa using this,H.out.2⟩
   have Q:Hid (s.rs.length=12):=(fT d).2.2.2.2.2.2.1;clear o d H;go_wp2_with fail
   go_loopw [7] (fun kv wr=>∃k:Nat,k<=12/\kv=ae k/\Hid (wr.ownsRow w.heap.size 4 1 (.slice (ag w.heap.size) s.T.length s.T.length) s.T.length ((((s.rs.take k).foldl f1 (s.T.map (gA a)))).map Value.bool)/\Below w.heap.size w wr)) (fun kv _=>12-(intOf kv).toNat)
   case atStart=>exact⟨0,I,rfl,P⟩
   case round=>
    clear P c0;obtain⟨k,hk,rfl,H⟩:=hrel;have d:=J.out wr H.out.2;obtain⟨c1,_,_,_,_,_,_,m⟩:=fT d;by_cases R:k<12
    ·obtain⟨bb,bd,_⟩:=m k R;have p:k<s.rs.length:=by rw[Q.out];exact R
     have q:=ai.out (s.rs.getD k (0,0)) (getD_in p)
     have f:Hid (∀u:List Bool,(s.rs.take (k+1)).foldl f1 u=f1 ((s.rs.take k).foldl f1 u) (s.rs.getD k (0,0))):=fun u=>by rw[List.take_succ_eq_append_getElem p,List.foldl_append,aj,am p];rfl
     have aR:Hid (((s.rs.take k).foldl f1 (s.T.map (gA a))).length=s.T.length):=by show _=_;have:=ni s.T (s.rs.take k) a;exact this
     generalize s.rs.getD k (0,0)=v at*;obtain⟨x,be⟩:=v;dsimp only at*;have q0:(0:Int)<=(k:Int):=I;have q1:(k:Int)<12:=I;by_cases j:x=3
     ·obtain⟨n0,n1⟩:=q j;obtain⟨n,rfl⟩:=Int.eq_ofNat_of_zero_le n0;have b3:(x==3)=true:=by simpa using j
      have g:Hid ((wr.setCell ⟨w.heap.size,n,none⟩ (.bool true)).ownsRow w.heap.size 4 1 (.slice (ag w.heap.size) s.T.length s.T.length) s.T.length (((s.rs.take (k+1)).foldl f1 (s.T.map (gA a))).map Value.bool)/\Below w.heap.size w (wr.setCell ⟨w.heap.size,n,none⟩ (.bool true))):=⟨by rw[f.out];unfold f1;rw[aq j,List.map_set];exact h7 H.out.1 n _,H.out.2.trans (((Fr.refl (fun k=>k=w.heap.size) wr).set w.heap.size n _ rfl).below H.out.2.size (fun k e=>Nat.le_of_eq (Eq.symm e)))⟩
      have l:(((s.rs.take k).foldl f1 (s.T.map (gA a))).map Value.bool)[n]?=some (.bool (((s.rs.take k).foldl f1 (s.T.map (gA a))).getD n false)):=by
       have S:n<((s.rs.take k).foldl f1 (s.T.map (gA a))).length:=by rw[aR.out];omega
       rw[aX,am S,aj,am S];rfl
      obtain⟨u0,aB⟩:=eO H.out.1 l;have bg:(0:Int)<=(n:Int):=n0;clear d m q f j H l n0;go_wp2_with fail;go_roundw
      case rel=>exact⟨k+1,I,ac,g⟩
      case measure=>simp[intOf];omega
     ·have b3:(x==3)=false:=by simpa using j
      have g:Hid (wr.ownsRow w.heap.size 4 1 (.slice (ag w.heap.size) s.T.length s.T.length) s.T.length (((s.rs.take (k+1)).foldl f1 (s.T.map (gA a))).map Value.bool)/\Below w.heap.size w wr):=⟨by rw[f.out];unfold f1;rw[ao j];exact H.out.1,H.out.2⟩
      clear d m q f j H;go_wp2_with fail;go_roundw
      case rel=>exact⟨k+1,I,ac,g⟩
      case measure=>simp[intOf];omega
    ·obtain rfl:k=12:=I;have aT:wr.ownsRow w.heap.size 4 1 (.slice (ag w.heap.size) s.T.length s.T.length) s.T.length ((iG s.T s.rs a).map Value.bool):=by
      have:=H.out.1;rw[List.take_of_length_le (by rw[Q.out];decide)] at this
      exact this
     have aV:=H.out.2;clear d m H;go_wp2_with fail;go_ret;exact⟨w.heap.size,rfl,aT,aV⟩
end
structure iJ (s:b_):Prop where
 iv:gX s.T s.wt
 rv:∀v∈s.rs,v.1=3->0<=v.2/\cv s.T v.2.toNat
 gv:∀e∈s.rg,(0<=e.1/\cv s.T e.1.toNat)/\0<=e.2/\cv s.T e.2.toNat
 wg:∀e∈s.wt,0<=e.1/\cv s.T e.1.toNat
 tl:s.T.length<=10000
 gl:s.rg.length<=1000
 wl:s.wt.length<=1000
theorem iJ.t12 {s:b_}(h:iJ s):∀t∈s.T,t.2.1.length<=12:=fun t ht=>by
 obtain⟨i,hi,e⟩:=List.mem_iff_getElem.1 ht;have:=h.iv.tl i;rw[aj,am hi,e] at this
 exact this
theorem iJ.first {s:b_}(h:iJ s)(b:Bool):fp s.T (iG s.T s.rs b):=
 ⟨ni _ _ _,fun k hk=>by
  obtain⟨c,a⟩:=(kB _ _ _ _).1 hk;rcases a with⟨_,a,_⟩|⟨v,d,f,e⟩
  ·exact⟨c,a⟩
  ·rw[<-e];exact(h.rv v d f).2⟩
theorem pi {rp rb:Nat}{bS bT:Int}{F:Nat->Prop}{s:b_}{w:World}(h:(cf rp rb bS bT).J F s w):Wg w rp s.T s.wt:=by obtain⟨a,cT,c0,_,c⟩:=jq h;obtain⟨v2,q,_,d,_,r3,_⟩:=nn h;obtain⟨f,g,j⟩:=dG r3;subst j;exact⟨⟨a,cT,c0,fun i x k=>by obtain⟨b,l,cp,e,m,y1,n,o,p,_⟩:=c i x k;exact⟨b,l,cp,e,m,y1,n,o,p⟩⟩,⟨f,g,d,fR r3⟩⟩
theorem xD {a:Type}(f:a->Bool)(l:List a)(i:Nat)(hi:i<l.length)(b:a):(((l.take i).map f)++List.replicate (l.length-i) false).set i (f (l.getD i b))=((l.take (i+1)).map f)++List.replicate (l.length-(i+1)) false:=by
 have hl:((l.take i).map f).length=i:=by simp;omega
 rw[List.set_append_right _ _ I,hl,Nat.sub_self,List.take_succ_eq_append_getElem hi,bc,show l.length-i=(l.length-(i+1))+1 by omega,List.replicate_succ,List.set_cons_zero,aU]
 congr 1
 rw[aj,am hi];rfl
theorem xE {a:Type}(f:a->Bool)(l:List a)(i:Nat)(hi:i<=l.length):(((l.take i).map f)++List.replicate (l.length-i) false).length=l.length:=by simp;omega
theorem ie {L:List Bool}{i:Nat}(h:i<L.length):(L.map Value.bool)[i]?=some (.bool (L.getD i false)):=by rw[aX,am h,aj,am h];rfl
structure eI (w:World)(s:b_)(db mb xb:Nat)(v0 v1 v2:Value)(bS bT:Int)(D:List Bool)(wr:World)(g_:Option Addr)(ci:Nat)(L M:List Bool)(C:List bN):Prop where
 ri:wr.ownsRow w.heap.size 4 1 (.slice g_ s.T.length ci) s.T.length (L.map Value.bool)
 bl:Below w.heap.size w wr
 rd:wr.ownsRow w.heap.size 4 1 (.slice (ag db) s.rg.length s.rg.length) s.rg.length (D.map Value.bool)
 rm:wr.ownsRow w.heap.size 4 1 (.slice (ag mb) s.rg.length s.rg.length) s.rg.length (M.map Value.bool)
 gB:∃sj cx,wr.heap[xb]?=some (.cells #[v0,v1,v2,.slice sj (s.wt++C).length cx,ae bS,ae bT] 91 (0,0))/\wr.ownsRow w.heap.size 97 2 (.slice sj (s.wt++C).length cx) (s.wt++C).length (ev (s.wt++C))
 ne:∀k,some k=(Value.slice g_ s.T.length ci).ownBlock->k≠db/\k≠mb
theorem eI.below {w:World}{s:b_}{c d b:Nat}{v0 v1 v2:Value}{bS bT:Int}{D:List Bool}{wr f:World}{g:Option Addr}{ci:Nat}{L M:List Bool}{C:List bN}(h:eI w s c d b v0 v1 v2 bS bT D wr g ci L M C)(a:Below wr.heap.size wr f):eI w s c d b v0 v1 v2 bS bT D f g ci L M C:=by obtain⟨l,m,i,j⟩:=h.gB;exact⟨ca h.ri (fun k e=>a.block k (bR h.ri k e).2),h.bl.trans (a.mono h.bl.size),ca h.rd (fun k e=>a.block k (bR h.rd k e).2),ca h.rm (fun k e=>a.block k (bR h.rm k e).2),⟨l,m,(a.block b (lt_of_some i)).trans i,ca j (fun k e=>a.block k (bR j k e).2)⟩,h.ne⟩
section
variable {w:World}{s:b_}{db mb xb:Nat}{v0 v1 v2:Value}{bS bT:Int}{D:List Bool}{wr:World}{g_:Option Addr}{ci:Nat}{L M:List Bool}{C:List bN}
theorem pj {b f n n' m g:Nat}{e c:TypeId}{v d:Value}{l i:List Value}(h:wr.ownsRow b e m v n l)(j:wr.ownsRow f c g d n' i)(o:e≠c):∀k,some k=v.ownBlock->¬some k=d.ownBlock:=by intro k p q;obtain⟨c1,s⟩:=dO h k p;obtain⟨c2,a⟩:=dO j k q;rw[s] at a;simp at a;exact o a.2
theorem eI.world (h:eI w s db mb xb v0 v1 v2 bS bT D wr g_ ci L M C):∀{b n m:Nat}{e:TypeId}{v:Value}{l:List Value},wr.ownsRow b e m v n l->e≠91->∀k,some k=v.ownBlock->k≠xb:=fun c d k f g=>by obtain⟨j,o,i,_⟩:=h.gB;obtain⟨c1,a⟩:=dO c k f;rw[g,i] at a;simp at a;exact d a.2.symm
theorem eI.push (h:eI w s db mb xb v0 v1 v2 bS bT D wr g_ ci L M C)(x:w.heap.size<=xb){f:Option Addr}{g:Nat}(j:wr.heap[xb]?=some (.cells #[v0,v1,v2,.slice f (s.wt++C).length g,ae bS,ae bT] 91 (0,0)))(i:wr.ownsRow w.heap.size 97 2 (.slice f (s.wt++C).length g) (s.wt++C).length (ev (s.wt++C))){c:World}{e:bN}{iK:Option Addr}{iL:Nat}(hg:Fr (fun k=>some k=(Value.slice f (s.wt++C).length g).ownBlock) wr c)(o:c.ownsRow w.heap.size 97 2 (.slice iK (s.wt++(C++[e])).length iL) (s.wt++(C++[e])).length (ev (s.wt++(C++[e])))):eI w s db mb xb v0 v1 v2 bS bT D (c.setCell ⟨xb,3,none⟩ (.slice iK (s.wt++(C++[e])).length iL)) g_ ci L M (C++[e]):=by
 have p:∀k,k≠xb->(c.setCell ⟨xb,3,none⟩ (.slice iK (s.wt++(C++[e])).length iL)).heap[k]?=c.heap[k]?:=fun k hk=>Below.heap_setCell _ _ _ _ hk;have q:c.heap[xb]?=some (.cells #[v0,v1,v2,.slice f (s.wt++C).length g,ae bS,ae bT] 91 (0,0)):=(hg.block xb (lt_of_some j) (fun a=>h.world i Z xb a rfl)).trans j;have hk:∀{b n m:Nat}{v:Value}{l:List Value},wr.ownsRow b 4 m v n l->(c.setCell ⟨xb,3,none⟩ (.slice iK (s.wt++(C++[e])).length iL)).ownsRow b 4 m v n l:=fun d=>ca d (fun k a=>(p k (h.world d Z k a)).trans (hg.block k (bR d k a).2 (pj d i Z k a)))
 refine⟨hk h.ri,?_,hk h.rd,hk h.rm,⟨iK,iL,?_,ca o (fun k a=>p k (fun u=>?_))⟩,h.ne⟩
 ·have d:=h.bl.trans (hg.below h.bl.size (fun k a=>(bR i k a).1))
  exact d.trans (((Fr.refl (fun k=>k=xb) c).set xb 3 _ rfl).below d.size (fun k a=>by have a:k=xb:=a;omega))
 ·simp only [World.setCell,Array.getElem?_modify,if_true,q,Option.map_some];simp
 ·obtain⟨c1,t⟩:=dO o k a;rw[u,q] at t;simp at t
theorem eI.mark {a:Nat}(h:eI w s db mb xb v0 v1 v2 bS bT D wr (ag a) ci L M C)(n:Nat):eI w s db mb xb v0 v1 v2 bS bT D (wr.setCell ⟨a,n,none⟩ (.bool true)) (ag a) ci (L.set n true) M C:=by
 have c:∀k,k≠a->(wr.setCell ⟨a,n,none⟩ (.bool true)).heap[k]?=wr.heap[k]?:=fun k hk=>Below.heap_setCell _ _ _ _ hk;obtain⟨f,g,i,d⟩:=h.gB;obtain⟨n1,j⟩:=h.ne a rfl;refine⟨?_,?_,ca h.rd (fun k e=>c k (fun b=>by have e:some k=some db:=e;cases e;exact n1 b.symm)),ca h.rm (fun k e=>c k (fun b=>by have e:some k=some mb:=e;cases e;exact j b.symm)),⟨f,g,(c xb (fun e=>h.world h.ri Z a rfl e.symm)).trans i,ca d (fun k e=>c k (fun b=>pj d h.ri Z k e (by rw[b];rfl)))⟩,h.ne⟩
 ·rw[List.map_set];exact h7 h.ri n _
 ·exact h.bl.trans (((Fr.refl (fun k=>k=a) wr).set a n _ rfl).below h.bl.size (fun k e=>by have e:k=a:=e;have:=(bR h.ri a rfl).1;omega))
theorem eI.mv (h:eI w s db mb xb v0 v1 v2 bS bT D wr g_ ci L M C)(d:db≠mb)(n:Nat):eI w s db mb xb v0 v1 v2 bS bT D (wr.setCell ⟨mb,n,none⟩ (.bool true)) g_ ci L (M.set n true) C:=by
 have a:∀k,k≠mb->(wr.setCell ⟨mb,n,none⟩ (.bool true)).heap[k]?=wr.heap[k]?:=fun k hk=>Below.heap_setCell _ _ _ _ hk;obtain⟨f,g,i,c⟩:=h.gB;refine⟨ca h.ri (fun k e=>a k (h.ne k e).2),?_,ca h.rd (fun k e=>a k (fun b=>by have e:some k=some db:=e;cases e;exact d b)),?_,⟨f,g,(a xb (fun e=>h.world h.rm Z mb rfl e.symm)).trans i,ca c (fun k e=>a k (fun b=>pj c h.rm Z k e (by rw[b];rfl)))⟩,h.ne⟩
 ·exact h.bl.trans (((Fr.refl (fun k=>k=mb) wr).set mb n _ rfl).below h.bl.size (fun k e=>by have e:k=mb:=e;have:=(bR h.rm mb rfl).1;omega))
 ·rw[List.map_set];exact h7 h.rm n _
theorem eI.is (h:eI w s db mb xb v0 v1 v2 bS bT D wr g_ ci L M C){b:World}(i:Below wr.heap.size wr b){d:Option Addr}{f:Nat}{g:List Bool}(c:b.ownsRow wr.heap.size 4 1 (.slice d s.T.length f) s.T.length (g.map Value.bool)):eI w s db mb xb v0 v1 v2 bS bT D b d f g M C:=by
 have a:=h.below i;refine⟨d5 c (fun k e=>az h.bl.size (bR c k e).1),a.bl,a.rd,a.rm,a.gB,fun k e=>?_⟩
 have j:=(bR c k e).1;have l:=(bR h.rd db rfl).2;have m:=(bR h.rm mb rfl).2;exact⟨I,I⟩
end
theorem sk:(prog.info? 97).map (fun i=>(i.zero,i.size,i.bytes))=some (some (.agg #[ae 0,ae 0]),2,16):=ab
theorem xF (w:World):(w.alloc (.cells #[] 97)).ownsRow w.heap.size 97 2 (.slice (ag w.heap.size) 0 0) 0 []:=
 ⟨V,an ⟨w.heap.size,0,#[],rfl,ak _,aw _ _,V,V,V,rfl⟩⟩
section
variable {rp rb:Nat}{bS bT:Int}{F:Nat->Prop}{s:b_}{w:World}
theorem xG (h:(cf rp rb bS bT).J F s w)(c:iJ s)(h0:0<=bT)(k:bT<=100000)(l:bT-(d8 s.T).2<(d8 s.T).1):
 Calls prog 34 #[af rp,.bool false] w fun e w'=>e=.returned (ae 3)/\Below w.heap.size w w':=by
 have f:=mh h c.t12 c.tl;obtain⟨_,_,d,_⟩:=fT h;have bd:=mf s.T c.t12;have ht:=c.tl;have i:Hid (∀w',Below w.heap.size w w'->w'.cell? (ah rp 5)=some (ae bT)):=fun w' j=>(j.cell (p:=ah rp 5) (au w _ d)).trans d;generalize (d8 s.T).1=a at*;generalize (d8 s.T).2=b at*;have a1:a<=130000:=I;have b1:b<=130000:=I;obtain⟨m,_,b0,_⟩:=bd;clear h c d;go_enter func34,ntmps34;go_wp2_with fail;refine f.mono ?_;clear f;rintro e w1 ⟨rfl,g⟩
 have d:=i.out w1 g;go_wp2_with fail;go_ret;exact⟨rfl,g⟩
end
def hU (e:TypeId):Prop:=e=96\/e=60\/e=3\/e=87
structure eg (B:Nat)(w w':World):Prop where
 os:w'.os=w.os
 tape:w'.tape=w.tape
 output:w'.output=w.output
 size:w.heap.size<=w'.heap.size
 low:∀k:Nat,k<w.heap.size->k<B->w'.heap[k]?=w.heap[k]?
 eP:∀(k:Nat) cs e m,w.heap[k]?=some (Obj.cells cs e m)->¬hU e->w'.heap[k]?=w.heap[k]?
section
variable {B:Nat}{w w' w'':World}
theorem eg.refl (B:Nat)(w:World):eg B w w:=⟨rfl,rfl,rfl,ak _,fun _ _ _=>rfl,fun _ _ _ _ _ _=>rfl⟩
theorem eg.trans (h:eg B w w')(k:eg B w' w''):eg B w w'':=
 ⟨k.os.trans h.os,k.tape.trans h.tape,k.output.trans h.output,az h.size k.size,fun i hi c=>(k.low i (av hi h.size) c).trans (h.low i hi c),fun i a e m hi b=>(k.eP i a e m ((h.eP i a e m hi b).trans hi) b).trans (h.eP i a e m hi b)⟩
theorem eg.of (h:Below w.heap.size w w'):eg B w w':=⟨h.os,h.tape,h.output,h.size,fun k hk _=>h.block k hk,fun k _ _ _ hi _=>h.block k (lt_of_some hi)⟩
theorem eg.below (h:eg B w w')(hB:B<=w.heap.size):Below B w w':=⟨h.os,h.tape,h.output,h.size,fun k hk=>h.low k I hk⟩
theorem eg.fr {X:Nat->Prop}(f:Fr X w w')(c:∀k,X k->B<=k/\∀a e m,w.heap[k]?=some (Obj.cells a e m)->hU e):eg B w w':=
 ⟨f.os,f.tape,f.output,f.size,fun k hk g=>f.block k hk (fun b=>by have:=(c k b).1;omega),fun k a e m hk d=>f.block k (lt_of_some hk) (fun b=>d ((c k b).2 a e m hk))⟩
theorem eg.new {X:Nat->Prop}(h:eg B w w')(f:Fr X w' w'')(b:∀k,X k->w.heap.size<=k):eg B w w'':=
 ⟨f.os.trans h.os,f.tape.trans h.tape,f.output.trans h.output,az h.size f.size,fun k hk c=>(f.block k (av hk h.size) (fun a=>by have:=b k a;omega)).trans (h.low k hk c),fun k d e m hk g=>(f.block k (av (lt_of_some hk) h.size) (fun a=>by have i:=b k a;have j:=lt_of_some hk;omega)).trans (h.eP k d e m hk g)⟩
theorem fE.kw {c:Option Addr}{l:List (Int×Int)}(h:fE w c l)(k:eg B w w'):fE w' c l:=by
 have hk:0<l.length->∀b,c=some b->w'.heap[b.block]?=w.heap[b.block]?:=fun hp b e=>by obtain⟨b0,f,g,a,d⟩:=h.2 hp;rw[a] at e;cases e;exact k.eP _ _ _ _ d (by unfold hU;decide)
 refine⟨h.1.keep k.size hk,fun hp=>?_⟩
 obtain⟨b0,f,g,a,d⟩:=h.2 hp;exact⟨b0,f,g,a,(hk hp _ a).trans d⟩
end
def Kx (w0 w:World)(m:List da)(w':World)(a:List da):Prop:=eg w0.heap.size w w'/\∀k,eN a k->eN m k\/w.heap.size<=k
theorem Kx.refl (w0 w:World)(m:List da):Kx w0 w m w m:=⟨eg.refl _ _,fun _ h=>ap h⟩
theorem Kx.trans {w0 w w' a:World}{m b c:List da}(h:Kx w0 w m w' b)(k:Kx w0 w' b a c):Kx w0 w m a c:=
 ⟨h.1.trans k.1,fun i hi=>(k.2 i hi).elim (h.2 i) (fun d=>an (az h.1.size d))⟩
theorem Kx.of {w0 w w':World}{m:List da}(h:Below w.heap.size w w'):Kx w0 w m w' m:=⟨eg.of h,fun _ a=>ap a⟩
abbrev i3 (a b c fb:Nat):Value:=.func (.func 49) #[] #[af a,af b,af c,af fb]
structure dI (w0 w:World)(mb bb vb fb:Nat)(s:ck)(va vn vr:Value)(m:List da):Prop where
 df:Below w0.heap.size w0 w
 lo:w0.heap.size<=mb/\w0.heap.size<=vb/\w0.heap.size<=fb
 fc:w.heap[fb]?=some (.cells #[i3 mb bb vb fb] 111 (0,0))
 mc:w.heap[mb]?=some (.cells #[va] 96 (0,0))
 vc:w.heap[vb]?=some (.cells #[vr,vn] 60 (0,0))
 mr:w.ownsRow w0.heap.size 3 1 va s.1.length (s.1.map (Value.int .i64))
 nr:w.ownsRow w0.heap.size 87 2 vn m.length (nv m)
 nd:gt m=s.2
 fl:∀x∈m,fE w x.2.1 x.2.2.2
section
variable {w0 w w':World}{mb bb vb fb:Nat}{s:ck}{va vn vr:Value}{m:List da}
theorem dI.pm (h:dI w0 w mb bb vb fb s va vn vr m)(k:Nat)(hk:eN m k):k<w.heap.size:=by obtain⟨x,c,hl,o,e⟩:=hk;obtain⟨b,f,g,a,d⟩:=(h.fl x c).2 hl;rw[e] at a;cases a;exact lt_of_some d
theorem dI.len (h:dI w0 w mb bb vb fb s va vn vr m):m.length=s.2.length:=by rw[<-h.nd];simp[gt]
theorem dI.cells (h:dI w0 w mb bb vb fb s va vn vr m):w.cell? (ah mb 0)=some va/\w.cell? (ah vb 1)=some vn/\w.cell? (ah fb 0)=some (i3 mb bb vb fb)/\mb<w.heap.size/\vb<w.heap.size/\fb<w.heap.size/\(∀o,w.frozen? (ah mb o)=false)/\(∀o,w.frozen? (ah vb o)=false)/\w.cell? (ah vb 0)=some vr:=
 ⟨by simp[World.cell?,h.mc],by simp[World.cell?,h.vc],by simp[World.cell?,h.fc],lt_of_some h.mc,lt_of_some h.vc,lt_of_some h.fc,fun o=>by simp[World.frozen?,h.mc],fun o=>by simp[World.frozen?,h.vc],by simp[World.cell?,h.vc]⟩
theorem dI.but {X:Nat->Prop}(h:dI w0 w mb bb vb fb s va vn vr m)(f:Fr X w w')(o:∀k,k<w.heap.size->X k->(∃c,w.heap[k]?=some (.cells c 77 (0,0)))/\¬eN m k/\w0.heap.size<=k):dI w0 w' mb bb vb fb s va vn vr m:=by
 have hk:∀k c e A,w.heap[k]?=some (Obj.cells c e A)->e≠77->w'.heap[k]?=w.heap[k]?:=fun k c e A hk p=>f.block k (lt_of_some hk) (fun d=>by obtain⟨⟨F,q⟩,_⟩:=o k (lt_of_some hk) d;rw[hk] at q;simp at q;exact p q.2.1)
 have B:∀{b n sz:Nat}{e:TypeId}{v:Value}{l:List Value},w.ownsRow b e sz v n l->e≠77->w'.ownsRow b e sz v n l:=fun C p=>ca C (fun k E=>by obtain⟨c,hc⟩:=dO C k E;exact hk k _ _ _ hc p)
 refine⟨⟨f.os.trans h.df.os,f.tape.trans h.df.tape,f.output.trans h.df.output,az h.df.size f.size,fun k t=>(f.block k (av t h.df.size) (fun d=>?_)).trans (h.df.block k t)⟩,h.lo,(hk _ _ _ _ h.fc Z).trans h.fc,(hk _ _ _ _ h.mc Z).trans h.mc,(hk _ _ _ _ h.vc Z).trans h.vc,B h.mr Z,B h.nr Z,h.nd,fun x i=>?_⟩
 ·have:=(o k (av t h.df.size) d).2.2;omega
 ·have D:0<x.2.2.2.length->∀a,x.2.1=some a->w'.heap[a.block]?=w.heap[a.block]?:=fun hp a e=>by obtain⟨b0,u,c,g,j⟩:=(h.fl x i).2 hp;rw[g] at e;cases e;exact f.block _ (lt_of_some j) (fun d=>(o _ (lt_of_some j) d).2.1 ⟨x,i,hp,u,g⟩)
  refine⟨(h.fl x i).1.keep f.size D,fun hp=>?_⟩
  obtain⟨b0,u,c,g,j⟩:=(h.fl x i).2 hp;exact⟨b0,u,c,g,(D hp _ g).trans j⟩
theorem dI.below (h:dI w0 w mb bb vb fb s va vn vr m)(a:Below w.heap.size w w'):dI w0 w' mb bb vb fb s va vn vr m:=
 h.but (X:=fun _=>False) (Fr.of a) (fun _ _ b=>b.elim)
theorem dI.meets (h:dI w0 w mb bb vb fb s va vn vr m)(a:Int){w1:World}{jX:Value}(f:Fr (fun k=>some k=va.ownBlock) w w1)(n:w1.ownsRow w0.heap.size 3 1 jX (s.1++[a]).length ((s.1++[a]).map (Value.int .i64))):dI w0 (w1.setCell ⟨mb,0,none⟩ jX) mb bb vb fb (s.1++[a],s.2) jX vn vr m/\eg w0.heap.size w (w1.setCell ⟨mb,0,none⟩ jX):=by
 have g:∀k,some k=va.ownBlock->∃d,w.heap[k]?=some (.cells d 3 (0,0)):=fun k e=>dO h.mr k e;have o:Fr (fun k=>some k=va.ownBlock\/k=mb) w (w1.setCell ⟨mb,0,none⟩ jX):=(f.mono (fun _ b=>ap b)).set mb _ _ (an rfl)
 have hk:∀k d e i,w.heap[k]?=some (Obj.cells d e i)->e≠3->e≠96->(w1.setCell ⟨mb,0,none⟩ jX).heap[k]?=w.heap[k]?:=fun k d e i hk p q=>o.block k (lt_of_some hk) (fun b=>by
  rcases b with b|b
  ·obtain⟨j,c⟩:=g k b;rw[hk] at c;simp at c;exact p c.2.1
  ·rw[b,h.mc] at hk;simp at hk;exact q hk.2.1.symm)
 have kw:eg w0.heap.size w (w1.setCell ⟨mb,0,none⟩ jX):=eg.fr o (fun k b=>by
  rcases b with b|b
  ·refine⟨(bR h.mr k b).1,fun d e i hc=>?_⟩
   obtain⟨j,c⟩:=g k b;rw[hc] at c;simp at c;exact an (an (ap c.2.1))
  ·refine⟨by rw[b];exact h.lo.1,fun d e i hc=>?_⟩
   rw[b,h.mc] at hc;simp at hc;exact ap hc.2.1.symm)
 refine⟨⟨h.df.trans (kw.below h.df.size),h.lo,(hk _ _ _ _ h.fc Z Z).trans h.fc,?_,(hk _ _ _ _ h.vc Z Z).trans h.vc,ca n (fun k e=>Below.heap_setCell _ _ _ _ (fun l=>?_)),ca h.nr (fun k t=>by obtain⟨d,hc⟩:=dO h.nr k t;exact hk k _ _ _ hc Z Z),h.nd,fun x u=>(h.fl x u).kw kw⟩,kw⟩
 ·have hq:=(f.block mb (lt_of_some h.mc) (fun e=>by obtain⟨j,c⟩:=g mb e;rw[h.mc] at c;simp at c)).trans h.mc;simp only [World.setCell,Array.getElem?_modify,if_true,hq,Option.map_some];simp
 ·have l:k=mb:=l;obtain⟨d,hc⟩:=dO n k e;have hq:=(f.block mb (lt_of_some h.mc) (fun e=>by obtain⟨j,c⟩:=g mb e;rw[h.mc] at c;simp at c)).trans h.mc;rw[l,hq] at hc;simp at hc
theorem dI.xH (h:dI w0 w mb bb vb fb s va vn vr m)(k0:Int){w1:World}{ib:Value}(f:Fr (fun k=>some k=vn.ownBlock) w w1)(l:w1.ownsRow w0.heap.size 87 2 ib (m++[(k0,none,0,[])]).length (nv (m++[(k0,none,0,[])]))):dI w0 (w1.setCell ⟨vb,1,none⟩ ib) mb bb vb fb (s.1,s.2++[(k0,[])]) va ib vr (m++[(k0,none,0,[])])/\eg w0.heap.size w (w1.setCell ⟨vb,1,none⟩ ib):=by
 have i:∀k,some k=vn.ownBlock->∃c,w.heap[k]?=some (.cells c 87 (0,0)):=fun k e=>dO h.nr k e;have n:Fr (fun k=>some k=vn.ownBlock\/k=vb) w (w1.setCell ⟨vb,1,none⟩ ib):=(f.mono (fun _ a=>ap a)).set vb _ _ (an rfl)
 have hk:∀k c e g,w.heap[k]?=some (Obj.cells c e g)->e≠87->e≠60->(w1.setCell ⟨vb,1,none⟩ ib).heap[k]?=w.heap[k]?:=fun k c e g hk p q=>n.block k (lt_of_some hk) (fun a=>by
  rcases a with a|a
  ·obtain⟨o,b⟩:=i k a;rw[hk] at b;simp at b;exact p b.2.1
  ·rw[a,h.vc] at hk;simp at hk;exact q hk.2.1.symm)
 have kw:eg w0.heap.size w (w1.setCell ⟨vb,1,none⟩ ib):=eg.fr n (fun k a=>by
  rcases a with a|a
  ·refine⟨(bR h.nr k a).1,fun c e g hc=>?_⟩
   obtain⟨o,b⟩:=i k a;rw[hc] at b;simp at b;exact an (an (an b.2.1))
  ·refine⟨by rw[a];exact h.lo.2.1,fun c e g hc=>?_⟩
   rw[a,h.vc] at hc;simp at hc;exact an (ap hc.2.1.symm))
 have hq:w1.heap[vb]?=some (.cells #[vr,vn] 60 (0,0)):=(f.block vb (lt_of_some h.vc) (fun e=>by obtain⟨o,b⟩:=i vb e;rw[h.vc] at b;simp at b)).trans h.vc;refine⟨⟨h.df.trans (kw.below h.df.size),h.lo,(hk _ _ _ _ h.fc Z Z).trans h.fc,(hk _ _ _ _ h.mc Z Z).trans h.mc,?_,ca h.mr (fun k t=>by obtain⟨c,hc⟩:=dO h.mr k t;exact hk k _ _ _ hc Z Z),ca l (fun k e=>Below.heap_setCell _ _ _ _ (fun j=>?_)),?_,fun x d=>?_⟩,kw⟩
 ·simp only [World.setCell,Array.getElem?_modify,if_true,hq,Option.map_some];simp
 ·have j:k=vb:=j;obtain⟨c,hc⟩:=dO l k e;rw[j,hq] at hc;simp at hc
 ·have:=h.nd;simp[gt] at this⊢
  exact this
 ·rcases List.mem_append.1 d with d|d
  ·exact(h.fl x d).kw kw
  ·simp at d;subst d;exact fE.nil
theorem dI.filled {g j len:Nat}(h:dI w0 w mb bb vb fb s va (.slice (ag g) len j) vr m){i:Nat}{k0:Int}{v0:List (Int×Int)}(hi:s.2[i]?=some (k0,v0)){base c2:Nat}{a2:Option Addr}{vs:List (Int×Int)}
 (l:w.ownsRow base 77 2 (.slice a2 vs.length c2) vs.length (ev vs)):
 dI w0 (w.setCell ⟨g,i*2+1,none⟩ (.slice a2 vs.length c2)) mb bb vb fb (s.1,s.2.set i (k0,vs)) va (.slice (ag g) len j) vr (m.set i (k0,a2,c2,vs))/\eg w0.heap.size w (w.setCell ⟨g,i*2+1,none⟩ (.slice a2 vs.length c2))/\(∀k,eN (m.set i (k0,a2,c2,vs)) k->eN m k\/base<=k):=by
 obtain⟨B,n⟩:=dO h.nr g rfl;have hg:=(bR h.nr g rfl).1;have p:Fr (fun k=>k=g) w (w.setCell ⟨g,i*2+1,none⟩ (.slice a2 vs.length c2)):=(Fr.refl _ w).set g _ _ rfl;have hk:∀k a e d,w.heap[k]?=some (Obj.cells a e d)->e≠87->(w.setCell ⟨g,i*2+1,none⟩ (.slice a2 vs.length c2)).heap[k]?=w.heap[k]?:=fun k a e d hk q=>p.block k (lt_of_some hk) (fun b=>by rw[b,n] at hk;simp at hk;exact q hk.2.1.symm)
 have kw:eg w0.heap.size w (w.setCell ⟨g,i*2+1,none⟩ (.slice a2 vs.length c2)):=eg.fr p (fun k b=>by
  refine⟨by rw[b];exact hg,fun a e d hc=>?_⟩
  rw[b,n] at hc;simp at hc;exact an (an (an hc.2.1.symm)))
 obtain⟨x,f,t⟩:∃x:da,m[i]?=some x/\(x.1,x.2.2.2)=(k0,v0):=by
  have:=hi;rw[<-h.nd,gt,aX] at this
  obtain⟨x,f,e⟩:=Option.map_eq_some_iff.1 this
  exact⟨x,f,e⟩
 have u:x.1=k0:=congrArg Prod.fst t;have v:len=m.length:=by
  rcases h.nr.2 with⟨c,_⟩|⟨C,D,E,c,_⟩
  ·simp at c
  ·simp at c;exact c.2.1
 refine⟨⟨h.df.trans (kw.below h.df.size),h.lo,(hk _ _ _ _ h.fc Z).trans h.fc,(hk _ _ _ _ h.mc Z).trans h.mc,(hk _ _ _ _ h.vc Z).trans h.vc,ca h.mr (fun k e=>by obtain⟨a,hc⟩:=dO h.mr k e;exact hk k _ _ _ hc Z),?_,?_,fun y hy=>?_⟩,kw,fun k A=>?_⟩
 ·rw[aM,<-u,oT m i x a2 c2 vs f];have:=h.nr;rw[<-v] at this⊢
  exact h7 this _ _
 ·rw[gt,List.map_set];show((gt m).set i (k0,vs))=_;rw[h.nd]
 ·rcases List.mem_or_eq_of_mem_set hy with hy|hy
  ·exact(h.fl y hy).kw kw
  ·subst hy;exact(fE.of l).kw kw
 ·obtain⟨y,hy,hl,o,e⟩:=A;rcases List.mem_or_eq_of_mem_set hy with hy|hy
  ·exact ap ⟨y,hy,hl,o,e⟩
  ·subst hy;have e:a2=some ⟨k,o,none⟩:=e;exact an (bR l k (by rw[e];rfl)).1
end
def dr (v:Int×Int):Int:=ew v.1 v.2
def hX (T:List cE)(v:Int×Int):Prop:=vc v.1 v.2=0/\(v.1=3->0<=v.2/\cv T v.2.toNat)
theorem hX.lt {T:List cE}{v:Int×Int}(h:hX T v)(a:v.1=3):0<=v.2/\v.2<T.length:=by obtain⟨h0,b⟩:=h.2 a;have:=b.1;exact⟨h0,I⟩
def tI (n:Nat):List Int:=(List.range n).map (fun i:Nat=>(i:Int))
theorem mo {n:Nat}{a:Int}:a∈tI n↔0<=a/\a<n:=by
 unfold tI;simp only [List.mem_map,List.mem_range];constructor
 ·rintro⟨i,hi,e⟩
  omega
 ·rintro⟨h0,b⟩
  exact⟨a.toNat,I,I⟩
theorem js (n:Nat):(tI n).length=n:=by simp[tI]
def eJ (T:List cE)(a:Int):Int:=(T.getD a.toNat t0).1
def eS (T:List cE)(wt:List bN)(a:Int):List Int:=((T.getD a.toNat t0).2.1.map dr)++(if(T.getD a.toNat t0).1=5 then(wt.filter (fun e=>e.1==a)).map (fun e=>ew 3 e.2) else[])
structure jY (T:List cE)(wt:List bN):Prop where
 fv:∀i,cv T i->∀v∈(T.getD i t0).2.1,hX T v
 wv:∀e∈wt,0<=e.1/\0<=e.2/\cv T e.2.toNat
 tl:∀i,(T.getD i t0).2.1.length<=12
 l1:T.length<=10000
 l2:wt.length<=10000
section
variable {T:List cE}{M:ck->Int->ck}{s:ck}{v:Int×Int}
theorem kG (h:hX T v):dk (dr v)=v.1/\cL (dr v)=v.2:=(m2 _ _ h.1).2
theorem so (h:hX T v)(a:v.1≠3):cX M (tI T.length) s (dr v)=(v,s):=by unfold cX;rw[(kG h).1,(kG h).2,ao a]
theorem sq (h:hX T v)(a:v.1=3)(hs:s.1.contains v.2=true):cX M (tI T.length) s (dr v)=((3,(s.1.idxOf v.2:Int)),s):=by unfold cX;rw[(kG h).1,(kG h).2,aq a,aq (List.contains_iff_mem.2 (mo.2 (h.lt a))),aq hs]
theorem xI (h:hX T v)(a:v.1=3)(hs:s.1.contains v.2=false):cX M (tI T.length) s (dr v)=((3,(s.1.length:Int)),M s v.2):=by unfold cX;rw[(kG h).1,(kG h).2,aq a,aq (List.contains_iff_mem.2 (mo.2 (h.lt a))),ao (by rw[hs];simp)]
end
def ig.jZ (T:List cE)(wt:List bN)(l:List (Int×Int)):List (Int×Int)×ck:=cD (met (tI T.length) (eJ T) (eS T wt) T.length) (tI T.length) ([],[]) (l.map dr)
section
variable {w0 w:World}{mb bb vb fb:Nat}{s:ck}{va vn vr:Value}{m:List da}
abbrev iM (k x:Int)(mb bb vb fb:Nat):Array Value:=#[.agg #[ae k,ae x],af mb,af bb,af vb,af fb]
theorem sr (w:World)(k x:Int)(b:k≠3):Calls prog 49 (iM k x mb bb vb fb) w fun e w'=>e=.returned (.agg #[ae k,ae x])/\Below w.heap.size w w':=by
 have hk:(k==3)=false:=by simpa using b
 have a:=((Below.refl w.heap.size w).alloc bJ (.cells #[ae k,ae x] 77)).alloc V (.cells #[ae k,ae x] 77)
 have c:Hid (Below w.heap.size w ((w.alloc (.cells #[.int .i64 k,.int .i64 x] 77)).alloc (.cells #[.int .i64 k,.int .i64 x] 77))):=a;have hg:=aw (w.alloc (.cells #[.int .i64 k,.int .i64 x] 77)) (.cells #[ae k,ae x] 77)
 have d:Hid (((w.alloc (.cells #[.int .i64 k,.int .i64 x] 77)).alloc (.cells #[.int .i64 k,.int .i64 x] 77)).heap[(w.alloc (.cells #[.int .i64 k,.int .i64 x] 77)).heap.size]?=some (.cells #[ae k,ae x] 77 (0,0))):=hg;clear a hg;go_enter func49,ntmps49;go_wp2_with fail;have f:(w.alloc (.cells #[.int .i64 k,.int .i64 x] 77)).heap.size=w.heap.size+1:=V;have hg:=d.out;rw[f] at hg;have g0:((w.alloc (.cells #[.int .i64 k,.int .i64 x] 77)).alloc (.cells #[.int .i64 k,.int .i64 x] 77)).cell? (ah (w.heap.size+1) 0)=some (ae k):=by unfold World.cell?;rw[hg];rfl
 have g1:((w.alloc (.cells #[.int .i64 k,.int .i64 x] 77)).alloc (.cells #[.int .i64 k,.int .i64 x] 77)).cell? (ah (w.heap.size+1) 1)=some (ae x):=by unfold World.cell?;rw[hg];rfl
 exact aW (v:=.agg #[ae k,ae x]) (by simp[results,results49,go_sem,g0,g1]) rfl ⟨rfl,c.out⟩
theorem ss (h:dI w0 w mb bb vb fb s va vn vr m)(x:Int)(hl:s.1.length<=100000)(hs:s.1.contains x=true):Calls prog 49 (iM 3 x mb bb vb fb) w fun e w'=>e=.returned (.agg #[ae 3,ae (s.1.idxOf x)])/\Below w.heap.size w w':=by
 obtain⟨ms,W⟩:=s;dsimp only at hl hs⊢;have A:x∈ms:=List.contains_iff_mem.1 hs;have K:=List.idxOf_lt_length_of_mem A;obtain⟨L,M,N⟩:=dG h.mr;subst N;obtain⟨c,cb,B⟩:=dP h.mr (by show 0<ms.length;omega)
 obtain⟨rfl,rfl⟩:L=ag c/\M=cb:=by simpa using B
 have g:=((Below.refl w.heap.size w).alloc bJ (.cells #[ae 3,ae x] 77)).alloc V (.cells #[ae 0,ae 0] 77)
 have C:Hid (Below w.heap.size w ((w.alloc (.cells #[.int .i64 3,.int .i64 x] 77)).alloc (.cells #[.int .i64 0,.int .i64 0] 77))):=g;have D:Hid (∀j,j<ms.length->((w.alloc (.cells #[.int .i64 3,.int .i64 x] 77)).alloc (.cells #[.int .i64 0,.int .i64 0] 77)).cell? (ah c j)=some (ae (ms.getD j 0))):=fun j a=>by have l:=(eO h.mr (i:=j) (u:=ae (ms.getD j 0)) (by show(ms.map (Value.int .i64))[j]?=_;rw[aX,am a,aj,am a];rfl)).1;exact(g.cell (p:=ah c j) (au w _ l)).trans l
 have c0:=(g.cell (p:=ah mb 0) h.cells.2.2.2.1).trans h.cells.1;have X:=h.cells.2.2.2.1;have Y:=(bR h.mr c rfl).2;have E:Hid (ms.getD (ms.idxOf x) 0=x/\∀j,ms.getD j 0=x->j<ms.length->ms.idxOf x<=j):=⟨by
  rw[aj,am K];simp,fun j a O=>by
  rcases Nat.lt_or_ge j (ms.idxOf x) with o|o
  ·exfalso;rw[aj,am O] at a;have a:ms[j]=x:=a;have q:=List.not_of_lt_findIdx (p:=fun y=>y==x) (xs:=ms) o;simp[a] at q
  ·exact o⟩
 have ad:w.heap.size≠mb:=I;clear g h B hs A;generalize ai:ms.idxOf x=F at*;go_enter func49,ntmps49;go_wp2_with fail;have n:Hid (((w.alloc (.cells #[.int .i64 3,.int .i64 x] 77)).alloc (.cells #[.int .i64 0,.int .i64 0] 77)).heap[w.heap.size+1]?=some (.cells #[ae 0,ae 0] 77 (0,0))/\((w.alloc (.cells #[.int .i64 3,.int .i64 x] 77)).alloc (.cells #[.int .i64 0,.int .i64 0] 77)).heap[w.heap.size]?=some (.cells #[ae 3,ae x] 77 (0,0))/\((w.alloc (.cells #[.int .i64 3,.int .i64 x] 77)).alloc (.cells #[.int .i64 0,.int .i64 0] 77)).heap.size=w.heap.size+2):=by
  refine⟨?_,?_,V⟩
  ·have:=aw (w.alloc (.cells #[.int .i64 3,.int .i64 x] 77)) (.cells #[ae 0,ae 0] 77)
   have e:(w.alloc (.cells #[.int .i64 3,.int .i64 x] 77)).heap.size=w.heap.size+1:=V;rw[e] at this
   exact this
  ·have l:=aw w (.cells #[ae 3,ae x] 77)
   have P:=(Below.refl (w.alloc (.cells #[.int .i64 3,.int .i64 x] 77)).heap.size (w.alloc (.cells #[.int .i64 3,.int .i64 x] 77))).alloc bJ (.cells #[ae 0,ae 0] 77)
   exact(P.block w.heap.size V).trans l
 generalize (w.alloc (.cells #[.int .i64 3,.int .i64 x] 77)).alloc (.cells #[.int .i64 0,.int .i64 0] 77)=d at*
 go_loopw [7] (fun iv wr=>∃j:Nat,j<=F/\iv=ae j/\Hid (Below d.heap.size d wr)) (fun iv _=>ms.length-(intOf iv).toNat)
 case atStart=>exact⟨0,aA _,rfl,Below.refl _ _⟩
 case round=>
  obtain⟨j,a,rfl,b⟩:=hrel;have Q:mb<d.heap.size:=au d _ c0;have z0:=(b.out.cell (p:=ah mb 0) Q).trans c0;have t:j<ms.length:=I;have R:=(b.out.cell (p:=ah c j) (au d _ (D.out j t))).trans (D.out j t)
  have G:=(b.out.block w.heap.size (lt_of_some n.out.2.1)).trans n.out.2.1;have f:=(b.out.block (w.heap.size+1) (lt_of_some n.out.1)).trans n.out.1;have y1:wr.cell? (ah w.heap.size 1)=some (ae x):=by simp[World.cell?,G]
  have r0:wr.cell? (ah (w.heap.size+1) 0)=some (ae 0):=by simp[World.cell?,f]
  have r1:wr.cell? (ah (w.heap.size+1) 1)=some (ae 0):=by simp[World.cell?,f]
  have H:wr.frozen? (ah (w.heap.size+1) 0)=false:=by simp[World.frozen?,f]
  have al:wr.frozen? (ah (w.heap.size+1) 1)=false:=by simp[World.frozen?,f]
  have j0:(0:Int)<=(j:Int):=I;have ar:(j:Int)<(ms.length:Int):=I;clear G f;by_cases S:j=F
  ·subst S;rw[E.out.1] at R;go_wp2_with fail
   go_quiet (fail)
   go_wp2_with fail;have U:Fr (fun k=>k=w.heap.size+1) wr (((wr.drewN nq).setCell ⟨w.heap.size+1,0,none⟩ (.int .i64 3)).setCell ⟨w.heap.size+1,1,none⟩ (.int .i64 j)):=by
    have H:Fr (fun k=>k=w.heap.size+1) wr (wr.drewN nq):=Fr.of (below_drewN bK nq)
    exact(H.set (w.heap.size+1) 0 _ rfl).set (w.heap.size+1) 1 _ rfl
   have g0:(((wr.drewN nq).setCell ⟨w.heap.size+1,0,none⟩ (.int .i64 3)).setCell ⟨w.heap.size+1,1,none⟩ (.int .i64 j)).cell? (ah (w.heap.size+1) 0)=some (ae 3):=by rw[aC _ _ _ _ V];exact aH _ _ _ (u:=ae 0) r0
   have g1:(((wr.drewN nq).setCell ⟨w.heap.size+1,0,none⟩ (.int .i64 3)).setCell ⟨w.heap.size+1,1,none⟩ (.int .i64 j)).cell? (ah (w.heap.size+1) 1)=some (ae j):=aH _ _ _ (u:=ae 0) ((aC _ _ _ _ V).trans r1)
   have J:Below w.heap.size w wr:=C.out.trans (b.out.mono C.out.size)
   exact aW (v:=.agg #[ae 3,ae j]) (by simp[results,results49,go_sem,g0,g1]) rfl ⟨rfl,J.trans (U.below J.size (fun k e=>by have e:k=w.heap.size+1:=e;omega))⟩
  ·have ax:(ms.getD j 0==x)=false:=by
    have:ms.getD j 0≠x:=fun e=>by have:=E.out.2 j e t;omega
    simpa using this
   generalize ms.getD j 0=y at*;go_wp2_with fail
   go_quiet (fail)
   go_wp2_with fail;go_roundw
   case rel=>exact⟨j+1,I,ac,below_drewN b.out _⟩
   case measure=>simp[intOf];omega
end
end Go.Proofs.YtjpjpjemibgjpaaGreat
