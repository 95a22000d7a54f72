import Derived.Test.YtjpjpjemibgjpaaGreatJ25
import Derived.Test.YtjpjpjemibgjpaaGreatJ18
import Derived.Test.YtjpjpjemibgjpaaGreatJ07
import Derived.Lib.SliceRun
import Derived.Test.YtjpjpjemibgjpaaGreatJ00
import Derived.Test.YtjpjpjemibgjpaaGreatJ02
import Derived.Test.YtjpjpjemibgjpaaGreatJ01
import Derived.Test.YtjpjpjemibgjpaaGreatJ05
import Derived.Test.YtjpjpjemibgjpaaGreatJ19
import Derived.Test.YtjpjpjemibgjpaaGreatJ03
import Derived.Test.YtjpjpjemibgjpaaGreatJ06
namespace Go.Proofs.YtjpjpjemibgjpaaGreat
set_option maxRecDepth 100000
set_option maxHeartbeats 2000000
open Tryz
open Go.RowKit W Kp bY
def dA (p:Int->Bool)(l:List Int):List Int:=l.filter (fun x=>!p x)
theorem pW (p:Int->Bool)(l:List Int)(x:Int):dA p (l++[x])=if p x=true then dA p l else dA p l++[x]:=by unfold dA;rw[List.filter_append];cases h:p x<;>simp[h]
theorem nU {p:Int->Bool}{l:List Int}(h:∀e∈l,p e=false):dA p l=l:=by unfold dA;rw[List.filter_eq_self];intro a ha;rw[h a ha];rfl
theorem tN {base size n g b i:Nat}{e:TypeId}:∀(vs:List Value)(o:Nat){w:World}{xs:List Value},w.ownsRow base e size (.slice (ag g) n b) n xs->i<=o->∃a,(w.setCells g o vs).ownsRow base e size (.slice (ag g) n b) n a/\a.take i=xs.take i
 |[],o,w,xs,h,_=>⟨xs,h,rfl⟩
 |v::vs,o,w,xs,h,hi=>by
  obtain⟨a,c,d⟩:=tN vs (o+1) (nL h o v) (by omega:i<=o+1)
  refine⟨a,c,d.trans ?_⟩
  rw[List.take_set_of_le hi]
theorem tO {g:Nat}:∀(vs:List Value)(o:Nat)(w:World),Fr (fun b=>b=g) w (w.setCells g o vs)
 |[],_,w=>Fr.refl _ w
 |v::vs,o,w=>((Fr.refl (fun b=>b=g) w).set g o v rfl).trans (tO vs (o+1) _) (fun _ e=>ap e)
theorem zL (f:Nat)(c:Array Value)(p:Int->Bool)(H:dQ f)(w:World)(l:List Int)(g d B:Nat)
 (hl:∀(w':World)(x:Int),x∈l->Fr (fun b=>b=g) w w'->Calls prog f (#[ae x]++c) w' fun r J=>r=.returned (.bool (p x))/\Below w'.heap.size w' J)
 (hm:l.length<=100000)(C:w.ownsRow B 3 1 (.slice (ag g) l.length d) l.length (l.map (Value.int .i64))):
 Calls prog 167 #[.slice (ag g) l.length d,.func (.func f) #[] c] w fun r w'=>r=.returned (.slice (ag g) (dA p l).length d)/\w'.ownsRow B 3 1 (.slice (ag g) (dA p l).length d) (dA p l).length ((dA p l).map (Value.int .i64))/\Fr (fun b=>b=g) w w':=by
 have R:Hid (∀(w':World)(x:Int),x∈l->Fr (fun b=>b=g) w w'->Calls prog f (#[ae x]++c) w' fun r J=>r=.returned (.bool (p x))/\Below w'.heap.size w' J):=hl;have P:=tM f c p H w l (fun w' x D ax=>R.out w' x D (Fr.of ax)) (ag g) d hm (ga C)
 have E:Hid (w.ownsRow B 3 1 (.slice (ag g) l.length d) l.length (l.map (Value.int .i64))):=C;have aV:=r8 C;have a0:∀(args:Array Value)(w:World),(callFunc f args).run prog w=.ok (.enter f args) w:=H;clear hl C H;go_enter func167,ntmps167;go_wp2_with fail;refine P.mono ?_;clear P;rintro r w1 ⟨o,⟨rfl,t⟩|⟨m,rfl,S,U,t⟩⟩
 ·have W:Hid (dA p l=l/\w1.ownsRow B 3 1 (.slice (ag g) l.length d) l.length (l.map (Value.int .i64))/\Fr (fun b=>b=g) w w1):=⟨nU t,ca E.out (fun b e=>o.block b (bR E.out b e).2),Fr.of o⟩
  clear o t;go_wp2_with fail;go_ret;rw[W.out.1];exact⟨rfl,W.out.2⟩
 ·have aB:(m:Int)<l.length:=I;have Y:Hid (dA p (l.take (m+1))=l.take m/\w1.ownsRow B 3 1 (.slice (ag g) l.length d) l.length (l.map (Value.int .i64))/\Fr (fun b=>b=g) w w1):=by
   refine⟨?_,ca E.out (fun b e=>o.block b (bR E.out b e).2),Fr.of o⟩
   rw[eY l m S 0,pW,aq U,nU t]
  clear t U o;go_wp2_with fail;have ad:((m:Int)==-1)=false:=by rw[beq_eq_false_iff_ne];omega
  rw[ad];clear ad
  go_loopw [5,6] (fun iv K wr=>∃(i j:Nat),i<j/\j<=l.length/\iv=ae i/\K=ae j/\Hid ((dA p (l.take j)).length=i/\wr.ownsRow B 3 1 (.slice (ag g) l.length d) l.length ((dA p (l.take j)++l.drop i).map (Value.int .i64))/\Fr (fun b=>b=g) w wr)) (fun _ K _=>l.length-(intOf K).toNat)
  case atStart=>
   refine⟨m,m+1,I,I,rfl,ac,?_⟩
   obtain⟨u,F,L⟩:=Y.out;refine⟨by rw[u,a5];omega,?_,L⟩
   rw[u,List.take_append_drop];exact F
  case round=>
   clear Y S aB;obtain⟨i,j,a1,a2,rfl,rfl,a⟩:=hrel;by_cases q:j<l.length
   ·have hd:l.getD j 0∈l:=by rw[aj,am q];exact aK q
    have D:((dA p (l.take j)++l.drop i).map (Value.int .i64))[j]?=some (ae (l.getD j 0)):=by have e:=a.out.1;rw[aX,a9 I,List.getElem?_drop,e,show i+(j-i)=j from by omega,am q,aj,am q];rfl
    have ai:=(eO a.out.2.1 D).1;have P:=R.out wr (l.getD j 0) hd a.out.2.2;have v:Hid (l.take (j+1)=l.take j++[l.getD j 0]):=eY l j q 0;generalize l.getD j 0=x at ai P v;have j0:(0:Int)<=(j:Int):=I;have a3:(j:Int)<l.length:=I;have m:(0:Int)<=(i:Int):=I;have aF:(i:Int)<l.length:=I;clear D hd;go_wp2_with fail;refine P.mono ?_;clear P ai;rintro r n ⟨rfl,M⟩
    have s:Hid (n.ownsRow B 3 1 (.slice (ag g) l.length d) l.length ((dA p (l.take j)++l.drop i).map (Value.int .i64))/\Fr (fun b=>b=g) w n):=⟨ca a.out.2.1 (fun b e=>M.block b (bR a.out.2.1 b e).2),a.out.2.2.trans (Fr.of (X:=fun b=>b=g) M) (fun _ A=>ap A)⟩
    clear M;cases hp:p x
    ·have hy:∃y,((dA p (l.take j)++l.drop i).map (Value.int .i64))[i]?=some (Value.int .i64 y):=by
      have e:=a.out.1;have N:i<l.length:=I;refine⟨l[i],?_⟩
      rw[aX,a9 I,List.getElem?_drop,e,Nat.sub_self,Nat.add_zero,am N];rfl
     obtain⟨y,hy⟩:=hy;obtain⟨y1,bb⟩:=eO s.out.1 hy;have O:Hid ((dA p (l.take (j+1))).length=i+1/\(n.setCell ⟨g,i,none⟩ (.int .i64 x)).ownsRow B 3 1 (.slice (ag g) l.length d) l.length ((dA p (l.take (j+1))++l.drop (i+1)).map (Value.int .i64))/\Fr (fun b=>b=g) w (n.setCell ⟨g,i,none⟩ (.int .i64 x))):=by
      have e:=a.out.1;have N:i<l.length:=I;have eR:dA p (l.take (j+1))=dA p (l.take j)++[x]:=by rw[v.out,pW,hp];rfl
      refine⟨by rw[eR,aJ,e];rfl,?_,s.out.2.trans ((Fr.refl (fun b=>b=g) n).set g i _ rfl) (fun _ A=>ap A)⟩
      have G:=nL s.out.1 i (Value.int .i64 x)
      have aR:((dA p (l.take j)++l.drop i).map (Value.int .i64)).set i (ae x)=(dA p (l.take (j+1))++l.drop (i+1)).map (Value.int .i64):=by rw[eR,<-List.map_set,List.set_append_right _ _ I,e,Nat.sub_self,List.drop_eq_getElem_cons N,List.set_cons_zero,aU];rfl
      rw[aR] at G;exact G
     clear hp hy a s v;go_wp2_with fail;go_roundw
     case rel=>exact⟨i+1,j+1,I,I,ac,ac,O⟩
     case measure=>simp[intOf];omega
    ·have O:Hid ((dA p (l.take (j+1))).length=i/\n.ownsRow B 3 1 (.slice (ag g) l.length d) l.length ((dA p (l.take (j+1))++l.drop i).map (Value.int .i64))/\Fr (fun b=>b=g) w n):=by
      have eR:dA p (l.take (j+1))=dA p (l.take j):=by rw[v.out,pW,hp];rfl
      rw[eR];exact⟨a.out.1,s.out⟩
     clear hp a s v;go_wp2_with fail;go_roundw
     case rel=>exact⟨i,j+1,I,I,rfl,ac,O⟩
     case measure=>simp[intOf];omega
   ·obtain rfl:j=l.length:=I;have Q:((dA p (l.take l.length)++l.drop i).map (Value.int .i64)).length=l.length:=by have e:=a.out.1;rw[aE,aJ,e,List.length_drop];omega
    have bd:∀ty,(Builtin.clear_ #[96] ty #[.slice (some ⟨g,i,none⟩) (l.length-i) (d-i)]).run prog wr=.ok (.tuple #[]) (wr.setCells g i (List.replicate (l.length-i) (ae 0))):=fun ty=>
     Lib.run_clear_slice wr _ _ ty _ Tryz.underlying96 (fun w=>jm w) rfl rfl g i _ _ I (fun k hk=>by rw[(eO a.out.2.1 (am (by rw[Q];omega:i+k<_))).1];rfl) (fun k hk=>(eO a.out.2.1 (am (by rw[Q];omega:i+k<_))).2)
    have al:Hid ((dA p l).length=i/\(wr.setCells g i (List.replicate (l.length-i) (ae 0))).ownsRow B 3 1 (.slice (ag g) i d) i ((dA p l).map (Value.int .i64))/\Fr (fun b=>b=g) w (wr.setCells g i (List.replicate (l.length-i) (ae 0)))):=by
     obtain⟨u,F,L⟩:=a.out;rw[aP] at u F;refine⟨u,?_,L.trans (tO _ _ _) (fun _ A=>ap A)⟩
     obtain⟨xs,aT,G⟩:=tN (i:=i) (List.replicate (l.length-i) (Value.int .i64 0)) i F bJ
     have ar:=r7 aT i I;rw[G,bc,List.take_append_of_le_length (by simp;omega),List.take_of_length_le (by simp;omega)] at ar;exact ar
    have m:(0:Int)<=(i:Int):=I;have aF:(i:Int)<l.length:=I;clear q a Q;go_wp2_with fail;go_ret;rw[al.out.1];exact⟨rfl,al.out.2⟩
def dT.j0 (a:Wc)(s:dT):bL:=⟨a,s,dA (fun x=>decide ((s.y:Int)<=x+pf (ld a.N s.y s.g s.ws x))) (dv a.N s.y s.g s.ws),dA (fun x=>decide ((a.N:Int)+s.g<=x+pf (ld a.N s.y s.g s.ws x))) (c8 a.N s.y s.g s.ws)⟩
def dw:bX:=⟨fun _=>-1,[],[]⟩
def bZ.j2 (a:Wc)(S:bZ):bX×List bN:=(S.s.j0 a).sp ((S.s.j0 a).cg dw 12,S.q)
def bZ.b7 (a:Wc)(S:bZ):bX:=((S.s.j0 a).d_ (S.j2 a) S.r).1
def bZ.r3 (a:Wc)(S:bZ):List bN:=(S.s.j0 a).sR (S.j2 a) S.r
def bZ.q3 (a:Wc)(S:bZ):List bN:=(S.s.j0 a).fw (S.j2 a) S.r
def bZ.b9 (a:Wc)(S:bZ):bX:=((S.s.j0 a).pl (S.b7 a)).1
def bZ.n4 (a:Wc)(S:bZ):Int:=((S.s.j0 a).pl (S.b7 a)).2-a.N
def bZ.e5 (a:Wc)(S:bZ):Bool:=decide ((a.O:Int)<S.n4 a)
def bZ.k5 (a:Wc)(S:bZ):bL:=(S.s.j0 a).es (S.b9 a)
def bZ.cC (a:Wc)(S:bZ):bX:=((S.k5 a).tS (S.b9 a,S.q3 a) (S.r3 a)).1
def bZ.k6 (a:Wc)(S:bZ):bL:=(S.k5 a).sl (S.cC a)
def bZ.cW (a:Wc)(S:bZ):bZ:=if S.e5 a=true then S else⟨(S.k6 a).s,(S.k5 a).tR (S.b9 a,S.q3 a) (S.r3 a),(S.k5 a).fz (S.b9 a,S.q3 a) (S.r3 a)⟩
def bZ.gG (a:Wc)(S:bZ):Int:=if S.e5 a=true then 3 else 0
section
variable {a:Wc}{s:dT}
theorem tP {p:Int->Bool}{l:List Int}{x:Int}(h:x∈dA p l):x∈l:=(List.mem_filter.1 h).1
theorem tT (p:Int->Bool)(l:List Int):(dA p l).length<=l.length:=aY _ _
theorem cu.start (hN:a.N<=256)(hO:a.O<=1024)(hy:s.y<=a.N)(hg:s.g<=a.O):cu (s.j0 a) dw:=by
 have f:∀x∈(s.j0 a).Y,0<=x/\x<s.y:=fun x b=>by
  have c:=lx x (tP b)
  omega
 have g:∀x∈(s.j0 a).G,(a.N:Int)<=x/\x<(a.N:Int)+s.g:=fun x b=>by
  have c:=ku _ _ x (tP b)
  omega
 have nd:(s.j0 a).T.Nodup:=by
  unfold bL.T;rw[List.nodup_append];refine⟨(nT 2000 _).filter _,(nT 2000 0).filter _,fun x b z hz e=>?_⟩
  have c:=g x b;have i:=f z hz;omega
 have tl:(s.j0 a).T.length<=4000:=by
  unfold bL.T;rw[aJ];have c:(s.j0 a).G.length<=2000:=az (tT _ _) (gx _ _)
  have i:(s.j0 a).Y.length<=2000:=az (tT _ _) (gx _ _)
  omega
 refine⟨nd,fun x b=>?_,fun x b=>by simp[dw] at b,fun x b=>by simp[dw] at b,tl,?_⟩
 ·rcases List.mem_append.1 b with d|d
  ·have:=g x d;omega
  ·have:=f x d;omega
 ·show((s.j0 a).T.filter (fun _=>_)).length+0+0<=_;exact aY _ _
end
def bL.k12 (k:bL):Prop:=∀a∈k.T,pk (k.ld a)=1\/pk (k.ld a)=2
def bL.ik (k:bL)(s:bX)(a:Int):Prop:=∀i:Nat,(i:Int)<pf (k.ld a)->k.co s (k.ld (a+1+i))=false
structure e6 (k:bL)(C X:Int->Prop)(s:bX):Prop where
 dy:cu k s
 snd:∀a∈k.T,s.f a≠-1->C a
 self:∀a∈k.T,s.f a≠-1->s.f a=a
 td:∀a∈s.td,s.f a≠-1
 cmp:∀a∈k.T,s.f a≠-1->a∈s.td\/X a\/k.ik s a
 ep:s.ep=[]
structure mM (k:bL)(C:Int->Prop):Prop where
 rt:∀i,i<12->k.jt (k.s.rs.getD i 0)=true->C (bQ (k.s.rs.getD i 0))
 fd:∀a∈k.T,C a->∀i:Nat,(i:Int)<pf (k.ld a)->k.jt (k.ld (a+1+i))=true->C (bQ (k.ld (a+1+i)))
section
variable {k:bL}{C X:Int->Prop}{s:bX}
theorem bL.jA {x:Int}(h:k.jt x=true):k.co s x=false↔s.f (bQ x)≠-1:=by unfold bL.co;rw[h,Bool.true_and,beq_eq_false_iff_ne]
theorem mN {x:Int}(h:k.jt x=true):bQ x∈k.T:=by unfold bL.jt at h;rw[aQ] at h;exact List.contains_iff_mem.1 h.2
structure c7 (k:bL)(s t:bX):Prop where
 f:∀b,s.f b≠-1->t.f b=s.f b
theorem c7.co {t:bX}(h:c7 k s t){y:Int}(hy:k.co s y=false):k.co t y=false:=by
 cases hj:k.jt y
 ·unfold bL.co;rw[hj];rfl
 ·rw[bL.jA hj] at hy⊢;rw[h.f _ hy];exact hy
theorem c7.refl (s:bX):c7 k s s:=⟨fun _ _=>rfl⟩
theorem c7.trans {t u:bX}(h:c7 k s t)(j:c7 k t u):c7 k s u:=⟨fun b a=>by have e:=h.f b a;rw[j.f b (by rw[e];exact a),e]⟩
theorem c7.ik {t:bX}(h:c7 k s t){a:Int}(ha:k.ik s a):k.ik t a:=fun i hi=>h.co (ha i hi)
theorem e6.ma (h:e6 k C X s)(x:Int)(m:k.jt x=true->C (bQ x)):e6 k C X (k.ma s x)/\c7 k s (k.ma s x)/\k.co (k.ma s x) x=false:=by
 by_cases c:k.co s x=true
 ·obtain⟨p,n,o⟩:=bL.mC c;have hp:=(h.dy.ps _ n).1;have j:k.jt x=true:=by unfold bL.co at c;rw[aQ] at c;exact c.1
  have e:k.ma s x={s with f:=fe s.f (bQ x) (bQ x),td:=s.td++[bQ x]}:=by unfold bL.ma;rw[aq c]
  have i:∀b,(k.ma s x).f b=if b=bQ x then bQ x else s.f b:=fun b=>by rw[e];rfl
  have l:(k.ma s x).td=s.td++[bQ x]:=by rw[e]
  have le:c7 k s (k.ma s x):=⟨fun b a=>by rw[i,ao (fun e=>a (by rw[e];exact o))]⟩
  refine⟨⟨(h.dy.ma x).1,fun b a g=>?_,fun b a g=>?_,fun b a=>?_,fun b a g=>?_,by rw[e];exact h.ep⟩,le,?_⟩
  ·rw[i] at g;by_cases d:b=bQ x
   ·rw[d];exact m j
   ·rw[ao d] at g;exact h.snd b a g
  ·rw[i] at g⊢;by_cases d:b=bQ x
   ·rw[aq d,d]
   ·rw[ao d] at g⊢;exact h.self b a g
  ·rw[l] at a;rw[i];by_cases d:b=bQ x
   ·rw[aq d];omega
   ·rw[ao d];rcases List.mem_append.1 a with a|a
    ·exact h.td b a
    ·exact absurd (List.mem_singleton.1 a) d
  ·rw[l];by_cases d:b=bQ x
   ·exact ap (by rw[d];simp)
   ·rw[i,ao d] at g;rcases h.cmp b a g with q|q|q
    ·exact ap (aL _ q)
    ·exact an (ap q)
    ·exact an (an (le.ik q))
  ·rw[bL.jA j,i,aq rfl];omega
 ·have e:k.ma s x=s:=by unfold bL.ma;rw[ao c]
  rw[e];exact⟨h,c7.refl _,by simpa using c⟩
theorem e6.d7 (h:e6 k C X s)(a:Int):∀n:Nat,(∀i:Nat,i<n->k.jt (k.ld (a+1+i))=true->C (bQ (k.ld (a+1+i))))->e6 k C X (k.d7 s a n)/\c7 k s (k.d7 s a n)/\∀i:Nat,i<n->k.co (k.d7 s a n) (k.ld (a+1+i))=false
 |0,_=>⟨h,c7.refl _,fun i hi=>I⟩
 |n+1,b=>by
  obtain⟨c,d,f⟩:=e6.d7 h a n (fun i hi=>b i I)
  obtain⟨g,j2,b7⟩:=c.ma (k.ld (a+1+n)) (b n I)
  refine⟨g,d.trans j2,fun i hi=>?_⟩
  by_cases e:i=n
  ·rw[e];exact b7
  ·exact j2.co (f i I)
theorem e6.l1 (h:e6 k C (fun _=>False) s)(hk:k.k12)(j:mM k C)(hl:0<s.td.length):e6 k C (fun _=>False) (k.l1 s)/\c7 k s (k.l1 s):=by
 obtain⟨x,d⟩:∃x,s.td.getD (s.td.length-1) 0=x:=⟨_,rfl⟩
 have hm:x∈s.td:=by rw[<-d,aj,am I];exact aK _
 have f:=h.dy.td x hm;have l:=h.td x hm;have m:∀b,b∈s.td->b∈s.td.take (s.td.length-1)\/b=x:=fun b c=>by
  have e:=eY s.td (s.td.length-1) I 0;rw[show s.td.length-1+1=s.td.length from by omega,aP,d] at e;have n:b∈s.td.take (s.td.length-1)++[x]:=by rw[<-e];exact c
  rcases List.mem_append.1 n with c|c
  ·exact ap c
  ·exact an (List.mem_singleton.1 c)
 have hs:=h.dy.sum;have u:(s.td.take (s.td.length-1)).length=s.td.length-1:=by rw[a5];omega
 have j0:cu k {s with td:=s.td.take (s.td.length-1)}:=⟨h.dy.nd,h.dy.ps,fun a ha=>h.dy.td a (List.mem_of_mem_take ha),h.dy.ep,h.dy.tl,by show k.lost s+(s.td.take (s.td.length-1)).length+s.ep.length<=_;omega⟩
 have h0:e6 k C (fun b=>b=x) {s with td:=s.td.take (s.td.length-1)}:=⟨j0,h.snd,h.self,fun a ha=>h.td a (List.mem_of_mem_take ha),fun a ha g=>by
  rcases h.cmp a ha g with q|q|q
  ·exact(m a q).imp id ap
  ·exact absurd q id
  ·exact an (an q),h.ep⟩
 have o:k.l1 s=k.d7 {s with td:=s.td.take (s.td.length-1)} x (pf (k.ld x)).toNat:=by unfold bL.l1;rw[d];unfold bL.lk;rw[aq (hk x f)]
 obtain⟨m1,p,t⟩:=h0.d7 x (pf (k.ld x)).toNat (fun i hi=>j.fd x f (h.snd x f l) i I)
 rw[o];refine⟨⟨m1.dy,m1.snd,m1.self,m1.td,fun a ha g=>?_,m1.ep⟩,⟨fun b c=>p.f b c⟩⟩
 rcases m1.cmp a ha g with q|q|q
 ·exact ap q
 ·rw[q];exact an (an (fun i hi=>t i I))
 ·exact an (an q)
theorem e6.lm (hk:k.k12)(a:mM k C):∀(n:Nat){s:bX},e6 k C (fun _=>False) s->e6 k C (fun _=>False) (k.lm n s)/\c7 k s (k.lm n s)
 |0,s,h=>⟨h,c7.refl _⟩
 |n+1,s,h=>by
  unfold bL.lm;by_cases c:0<s.td.length
  ·rw[aq c];obtain⟨b,d⟩:=h.l1 hk a c;obtain⟨e,j2⟩:=e6.lm hk a n b;exact⟨e,d.trans j2⟩
  ·rw[ao c];exact⟨h,c7.refl _⟩
theorem e6.cg (h:e6 k C X s)(a:mM k C):∀n,n<=12->e6 k C X (k.cg s n)/\c7 k s (k.cg s n)/\∀i,i<n->k.co (k.cg s n) (k.s.rs.getD i 0)=false
 |0,_=>⟨h,c7.refl _,fun i hi=>I⟩
 |n+1,g=>by
  obtain⟨b,c,d⟩:=e6.cg h a n I;obtain⟨f,j2,b7⟩:=b.ma (k.s.rs.getD n 0) (a.rt n I)
  refine⟨f,c.trans j2,fun i hi=>?_⟩
  by_cases e:i=n
  ·rw[e];exact b7
  ·exact j2.co (d i I)
theorem e6.start (h:cu k dw):e6 k C X dw:=⟨h,fun _ _ a=>absurd rfl a,fun _ _ a=>absurd rfl a,fun _ ha=>by simp[dw] at ha,fun _ _ a=>absurd rfl a,rfl⟩
structure tU (k:bL)(C:Int->Prop)(s:bX):Prop where
 dy:cu k s
 snd:∀a∈k.T,s.f a≠-1->C a
 self:∀a∈k.T,s.f a≠-1->s.f a=a
 ik:∀a∈k.T,s.f a≠-1->k.ik s a
 rt:∀i,i<12->k.co s (k.s.rs.getD i 0)=false
theorem zM {s:bX}(h:(k.c6 s).ep=[]):k.sp (s,[])=(k.c6 s,[]):=by
 have a:k.kv (k.c6 s)=(false,k.c6 s):=by unfold bL.kv bL.c4;rw[h];simp only [List.foldl_nil,List.length_nil,Nat.lt_irrefl,decide_false];cases hs:k.c6 s;rw[hs] at h;simp at h;rw[h]
 unfold bL.sp bL.cK;dsimp only;rw[a];rw[ao V];have b:k.wa (k.c6 s,[])=((k.c6 s,[]),false):=rfl;rw[b];simp
theorem e6.done (e:cu k dw)(hk:k.k12)(c:mM k C):k.sp (k.cg dw 12,[])=(k.c6 (k.cg dw 12),[])/\tU k C (k.c6 (k.cg dw 12)):=by
 obtain⟨d,_,f⟩:=(e6.start (C:=C) (X:=fun _=>False) e).cg c 12 bJ
 obtain⟨b,j2⟩:=e6.lm hk c (k.lost (k.cg dw 12)+(k.cg dw 12).td.length+1) d;have b:e6 k C (fun _=>False) (k.c6 (k.cg dw 12)):=b;have j2:c7 k (k.cg dw 12) (k.c6 (k.cg dw 12)):=j2;have ht:=ts d.dy;refine⟨zM b.ep,b.dy,b.snd,b.self,fun a ha g=>?_,fun i hi=>j2.co (f i hi)⟩
 rcases b.cmp a ha g with q|q|q
 ·rw[ht] at q;cases q
 ·exact absurd q id
 ·exact q
end
structure kQ (k:bL)(s:bX)(a:Int):Prop where
 p:pk (k.ld a)=1\/pk (k.ld a)=2->k.ik s a
 w:pk (k.ld a)=3->k.co s (k.ld (a+2))=false
 e:pk (k.ld a)=4->a∈s.ep\/k.co s (k.ld (a+2))=false
structure cM (k:bL)(X:Int->Prop)(s:bX):Prop where
 dy:cu k s
 self:∀a∈k.T,s.f a≠-1->s.f a=a
 td:∀a∈s.td,s.f a≠-1
 cmp:∀a∈k.T,s.f a≠-1->a∈s.td\/X a\/kQ k s a
section
variable {k:bL}{X:Int->Prop}{s t:bX}
theorem kQ.le {a:Int}(h:kQ k s a)(l:c7 k s t)(he:∀b∈s.ep,b∈t.ep):kQ k t a:=
 ⟨fun q=>l.ik (h.p q),fun q=>l.co (h.w q),fun q=>(h.e q).imp (he a) l.co⟩
theorem nV (k:bL)(s:bX)(x:Int):(k.ma s x).ep=s.ep:=by unfold bL.ma;split<;>rfl
theorem cM.ma (h:cM k X s)(x:Int):cM k X (k.ma s x)/\c7 k s (k.ma s x)/\k.co (k.ma s x) x=false:=by
 by_cases c:k.co s x=true
 ·obtain⟨o,l,m⟩:=bL.mC c;have hp:=(h.dy.ps _ l).1;have n:k.jt x=true:=by unfold bL.co at c;rw[aQ] at c;exact c.1
  have e:k.ma s x={s with f:=fe s.f (bQ x) (bQ x),td:=s.td++[bQ x]}:=by unfold bL.ma;rw[aq c]
  have i:∀b,(k.ma s x).f b=if b=bQ x then bQ x else s.f b:=fun b=>by rw[e];rfl
  have j:(k.ma s x).td=s.td++[bQ x]:=by rw[e]
  have le:c7 k s (k.ma s x):=⟨fun b a=>by rw[i,ao (fun e=>a (by rw[e];exact m))]⟩
  refine⟨⟨(h.dy.ma x).1,fun b a g=>?_,fun b a=>?_,fun b a g=>?_⟩,le,?_⟩
  ·rw[i] at g⊢;by_cases d:b=bQ x
   ·rw[aq d,d]
   ·rw[ao d] at g⊢;exact h.self b a g
  ·rw[j] at a;rw[i];by_cases d:b=bQ x
   ·rw[aq d];omega
   ·rw[ao d];rcases List.mem_append.1 a with a|a
    ·exact h.td b a
    ·exact absurd (List.mem_singleton.1 a) d
  ·rw[j];by_cases d:b=bQ x
   ·exact ap (by rw[d];simp)
   ·rw[i,ao d] at g;rcases h.cmp b a g with q|q|q
    ·exact ap (aL _ q)
    ·exact an (ap q)
    ·exact an (an (q.le le (fun b a=>by rw[nV];exact a)))
  ·rw[bL.jA n,i,aq rfl];omega
 ·have e:k.ma s x=s:=by unfold bL.ma;rw[ao c]
  rw[e];exact⟨h,c7.refl _,by simpa using c⟩
theorem zN (k:bL)(s:bX)(a:Int):∀n,(k.d7 s a n).ep=s.ep
 |0=>rfl
 |n+1=>(nV _ _ _).trans (zN k s a n)
theorem cM.d7 (h:cM k X s)(a:Int):∀n:Nat,cM k X (k.d7 s a n)/\c7 k s (k.d7 s a n)/\∀i:Nat,i<n->k.co (k.d7 s a n) (k.ld (a+1+i))=false
 |0=>⟨h,c7.refl _,fun i hi=>I⟩
 |n+1=>by
  obtain⟨b,c,d⟩:=cM.d7 h a n;obtain⟨f,j2,b7⟩:=b.ma (k.ld (a+1+n))
  refine⟨f,c.trans j2,fun i hi=>?_⟩
  by_cases e:i=n
  ·rw[e];exact b7
  ·exact j2.co (d i I)
theorem cM.lk {x:Int}(h:cM k (fun b=>b=x) s)(n:x∈k.T)(o:k.lost s+s.td.length+s.ep.length+1<=k.T.length):cM k (fun _=>False) (k.lk s x)/\c7 k s (k.lk s x):=by
 have d:∀u:bX,cM k (fun b=>b=x) u->kQ k u x->cM k (fun _=>False) u:=fun u e p=>⟨e.dy,e.self,e.td,fun a ha g=>by
  rcases e.cmp a ha g with q|q|q
  ·exact ap q
  ·rw[q];exact an (an p)
  ·exact an (an q)⟩
 have c:=(h.dy.lk n o).1;unfold bL.lk at c⊢;by_cases c1:pk (k.ld x)=1\/pk (k.ld x)=2
 ·rw[aq c1];obtain⟨m1,j,l⟩:=h.d7 x (pf (k.ld x)).toNat;exact⟨d _ m1 ⟨fun _ i hi=>l i I,fun q=>I,fun q=>I⟩,j⟩
 ·rw[ao c1] at c⊢;by_cases f:pk (k.ld x)=3
  ·rw[aq f];obtain⟨m1,j,l⟩:=h.ma (k.ld (x+2))
   exact⟨d _ m1 ⟨fun q=>absurd q c1,fun _=>l,fun q=>I⟩,j⟩
  ·rw[ao f] at c⊢;by_cases m:pk (k.ld x)=4
   ·rw[aq m] at c⊢;have le:c7 k s {s with ep:=s.ep++[x]}:=⟨fun _ _=>rfl⟩
    refine⟨d _ ⟨c,h.self,h.td,fun a ha g=>?_⟩ ⟨fun q=>absurd q c1,fun q=>absurd q f,fun _=>ap V⟩,le⟩
    exact(h.cmp a ha g).imp id (fun q=>q.imp id (fun q=>q.le le (fun b t=>aL _ t)))
   ·rw[ao m];exact⟨d _ h ⟨fun q=>absurd q c1,fun q=>absurd q f,fun q=>absurd q m⟩,c7.refl _⟩
theorem cM.l1 (h:cM k (fun _=>False) s)(hl:0<s.td.length):cM k (fun _=>False) (k.l1 s)/\c7 k s (k.l1 s):=by
 obtain⟨x,d⟩:∃x,s.td.getD (s.td.length-1) 0=x:=⟨_,rfl⟩
 have hm:x∈s.td:=by rw[<-d,aj,am I];exact aK _
 have f:=h.dy.td x hm;have g:∀b,b∈s.td->b∈s.td.take (s.td.length-1)\/b=x:=fun b c=>by
  have e:=eY s.td (s.td.length-1) I 0;rw[show s.td.length-1+1=s.td.length from by omega,aP,d] at e;have i:b∈s.td.take (s.td.length-1)++[x]:=by rw[<-e];exact c
  rcases List.mem_append.1 i with c|c
  ·exact ap c
  ·exact an (List.mem_singleton.1 c)
 have hs:=h.dy.sum;have n:(s.td.take (s.td.length-1)).length=s.td.length-1:=by rw[a5];omega
 have j0:cu k {s with td:=s.td.take (s.td.length-1)}:=⟨h.dy.nd,h.dy.ps,fun a ha=>h.dy.td a (List.mem_of_mem_take ha),h.dy.ep,h.dy.tl,by show k.lost s+(s.td.take (s.td.length-1)).length+s.ep.length<=_;omega⟩
 have h0:cM k (fun b=>b=x) {s with td:=s.td.take (s.td.length-1)}:=⟨j0,h.self,fun a ha=>h.td a (List.mem_of_mem_take ha),fun a ha j=>by
  rcases h.cmp a ha j with q|q|q
  ·exact(g a q).imp id ap
  ·exact absurd q id
  ·exact an (an ⟨q.p,q.w,q.e⟩)⟩
 obtain⟨m1,l⟩:=h0.lk f (by show k.lost s+(s.td.take (s.td.length-1)).length+s.ep.length+1<=_;omega)
 have m:k.l1 s=k.lk {s with td:=s.td.take (s.td.length-1)} x:=by unfold bL.l1;rw[d]
 rw[m];exact⟨m1,⟨fun b c=>l.f b c⟩⟩
theorem cM.lm:∀(n:Nat){s:bX},cM k (fun _=>False) s->cM k (fun _=>False) (k.lm n s)/\c7 k s (k.lm n s)
 |0,s,h=>⟨h,c7.refl _⟩
 |n+1,s,h=>by
  unfold bL.lm;by_cases c:0<s.td.length
  ·rw[aq c];obtain⟨a,b⟩:=h.l1 c;obtain⟨d,j2⟩:=cM.lm n a;exact⟨d,b.trans j2⟩
  ·rw[ao c];exact⟨h,c7.refl _⟩
theorem cM.c6 (h:cM k (fun _=>False) s):cM k (fun _=>False) (k.c6 s)/\c7 k s (k.c6 s)/\(k.c6 s).td=[]:=by obtain⟨a,b⟩:=cM.lm (k.lost s+s.td.length+1) h;exact⟨a,b,ts h.dy⟩
theorem cM.gE:∀(l:List Int){t:List Int×bX},cM k X t.2->cM k X (l.foldl k.cr t).2/\c7 k t.2 (l.foldl k.cr t).2/\(l.foldl k.cr t).2.ep=t.2.ep/\(∀a∈t.1,a∈(l.foldl k.cr t).1)/\∀a∈l,a∈(l.foldl k.cr t).1\/k.co (l.foldl k.cr t).2 (k.ld (a+2))=false
 |[],t,h=>⟨h,c7.refl _,rfl,fun _ q=>q,fun a ha=>by cases ha⟩
 |a::l,t,h=>by
  rw[aI];have key:cM k X (k.cr t a).2/\c7 k t.2 (k.cr t a).2/\(k.cr t a).2.ep=t.2.ep/\(∀b∈t.1,b∈(k.cr t a).1)/\(a∈(k.cr t a).1\/k.co (k.cr t a).2 (k.ld (a+2))=false):=by
   unfold bL.cr;split
   ·exact⟨h,c7.refl _,rfl,fun b c=>aL _ c,ap V⟩
   ·obtain⟨m1,g,i⟩:=h.ma (k.ld (a+2))
    exact⟨m1,g,nV _ _ _,fun _ c=>c,an i⟩
  obtain⟨k1,j,m,n,k5⟩:=key;obtain⟨o,d,p,f,s⟩:=cM.gE l k1;refine⟨o,j.trans d,p.trans m,fun b c=>f b (n b c),fun b c=>?_⟩
  rcases List.mem_cons.1 c with e|c
  ·rw[e];exact k5.imp (f a) d.co
  ·exact s b c
theorem cM.kv (h:cM k (fun _=>False) s):cM k (fun _=>False) (k.kv s).2/\c7 k s (k.kv s).2:=by
 obtain⟨b,e,f,_,g⟩:=cM.gE s.ep (t:=([],s)) h;have b:cM k (fun _=>False) (k.c4 s s.ep).2:=b;have e:c7 k s (k.c4 s s.ep).2:=e;have f:(k.c4 s s.ep).2.ep=s.ep:=f;have g:∀a∈s.ep,a∈(k.c4 s s.ep).1\/k.co (k.c4 s s.ep).2 (k.ld (a+2))=false:=g;have le:c7 k (k.c4 s s.ep).2 (k.kv s).2:=⟨fun _ _=>rfl⟩
 refine⟨⟨h.dy.kv.1,b.self,b.td,fun a ha i=>?_⟩,e.trans le⟩
 rcases b.cmp a ha i with q|q|q
 ·exact ap q
 ·exact absurd q id
 ·refine an (an ⟨fun c=>le.ik (q.p c),fun c=>le.co (q.w c),fun c=>?_⟩)
  rcases q.e c with d|d
  ·rw[f] at d;exact(g a d).imp id le.co
  ·exact an (le.co d)
theorem tW:∀(l:List Int)(t:List Int×bX),t.1.length+l.length<=(l.foldl k.cr t).1.length->l.foldl k.cr t=(t.1++l,t.2)/\∀a∈l,k.co t.2 (k.ld (a+1))=true
 |[],t,_=>⟨V,fun a ha=>by cases ha⟩
 |a::l,t,h=>by
  have g:∀(l:List Int)(t:List Int×bX),(l.foldl k.cr t).1.length<=t.1.length+l.length:=fun l=>by
   induction l with
   |nil=>intro t;simp
   |cons b l i=>
    intro t;rw[aI];have q:=i (k.cr t b)
    have f:(k.cr t b).1.length<=t.1.length+1:=by
     unfold bL.cr;split
     ·simp
     ·simp
    simp only [List.length_cons];omega
  rw[aI] at h⊢;simp only [List.length_cons] at h;by_cases c:k.co t.2 (k.ld (a+1))=true
  ·have e:k.cr t a=(t.1++[a],t.2):=by unfold bL.cr;rw[aq c]
   rw[e] at h⊢;obtain⟨q1,f⟩:=tW l (t.1++[a],t.2) (by simp only [List.length_append,List.length_cons,List.length_nil];omega)
   rw[q1];refine⟨V,fun b d=>?_⟩
   rcases List.mem_cons.1 d with e|d
   ·rw[e];exact c
   ·exact f b d
  ·have e:k.cr t a=(t.1,k.ma t.2 (k.ld (a+2))):=by unfold bL.cr;rw[ao c]
   rw[e] at h;have:=g l (t.1,k.ma t.2 (k.ld (a+2)))
   dsimp only at this
   omega
theorem zO (h:(k.kv s).1=false):(k.kv s).2=s/\∀a∈s.ep,k.co s (k.ld (a+1))=true:=by
 have c:¬(k.c4 s s.ep).1.length<s.ep.length:=of_decide_eq_false h;obtain⟨q1,b⟩:=tW (k:=k) s.ep ([],s) (by show 0+s.ep.length<=(k.c4 s s.ep).1.length;omega)
 have q1:k.c4 s s.ep=(s.ep,s):=by have:k.c4 s s.ep=([]++s.ep,s):=q1;simpa using this
 refine⟨?_,b⟩
 unfold bL.kv;rw[q1]
end
structure e7 (k:bL)(s:bX)(q:List bN):Prop where
 iQ:cM k (fun _=>False) s
 td:s.td=[]
 ep:∀a∈s.ep,k.co s (k.ld (a+1))=true
 wq:∀e∈q,k.al s e.2=true\/k.al s e.1=false
section
variable {k:bL}{s:bX}
theorem zP {t:bX}(l:c7 k s t){x:Int}(h:k.al s x=true):k.al t x=true:=by unfold bL.al at h⊢;rw[l.co (by simpa using h)];rfl
theorem tX {a:Type}(l:List a)(i:Nat)(b:a):l.set i (l.getD i b)=l:=by
 by_cases h:i<l.length
 ·rw[aj,am h];simp
 ·rw[List.set_eq_of_length_le I]
theorem cM.iR:∀(l:List Nat)(t:(bX×List bN)×Bool),cM k (fun _=>False) t.1.1->cM k (fun _=>False) (l.foldl (dt k.al k.mp) t).1.1/\c7 k t.1.1 (l.foldl (dt k.al k.mp) t).1.1/\(l.foldl (dt k.al k.mp) t).1.2=t.1.2/\
 ((l.foldl (dt k.al k.mp) t).2=false->t.2=false/\l.foldl (dt k.al k.mp) t=t/\∀i∈l,k.al t.1.1 (t.1.2.getD i (0,0)).2=true\/k.al t.1.1 (t.1.2.getD i (0,0)).1=false)
 |[],t,h=>⟨h,c7.refl _,rfl,fun e=>⟨e,rfl,fun i hi=>by cases hi⟩⟩
 |i::l,t,h=>by
  rw[aI];by_cases c:(k.al t.1.1 (t.1.2.getD i (0,0)).2||!k.al t.1.1 (t.1.2.getD i (0,0)).1)=true
  ·have e:dt k.al k.mp t i=t:=by unfold dt;rw[aq c]
   rw[e];obtain⟨a,b,d,f⟩:=cM.iR l t h;refine⟨a,b,d,fun q=>?_⟩
   obtain⟨q1,m,q3⟩:=f q;refine⟨q1,m,fun j g=>?_⟩
   rcases List.mem_cons.1 g with e|g
   ·rw[e];rw[Bool.or_eq_true] at c;exact c.imp id (fun c=>by simpa using c)
   ·exact q3 j g
  ·have e:dt k.al k.mp t i=((k.ma t.1.1 (t.1.2.getD i (0,0)).2,t.1.2),true):=by unfold dt;rw[ao c];show((k.ma t.1.1 (t.1.2.getD i (0,0)).2,t.1.2.set i ((t.1.2.getD i (0,0)).1,(t.1.2.getD i (0,0)).2)),true)=_;have n:t.1.2.set i ((t.1.2.getD i (0,0)).1,(t.1.2.getD i (0,0)).2)=t.1.2:=tX _ _ _;rw[n]
   rw[e];obtain⟨m1,o,_⟩:=h.ma (t.1.2.getD i (0,0)).2;obtain⟨a,b,d,f⟩:=cM.iR l ((k.ma t.1.1 (t.1.2.getD i (0,0)).2,t.1.2),true) m1;refine⟨a,o.trans b,d,fun q=>?_⟩
   have:=(f q).1;cases this
theorem cM.wa {t:bX×List bN}(h:cM k (fun _=>False) t.1):cM k (fun _=>False) (k.wa t).1.1/\c7 k t.1 (k.wa t).1.1/\(k.wa t).1.2=t.2/\((k.wa t).2=false->(k.wa t).1=t/\∀e∈t.2,k.al t.1 e.2=true\/k.al t.1 e.1=false):=by
 obtain⟨a,b,c,d⟩:=cM.iR (List.range t.2.length) (t,false) h;refine⟨a,b,c,fun q=>?_⟩
 obtain⟨_,f,q3⟩:=d q;refine⟨?_,fun e he=>?_⟩
 ·show(fF k.al k.mp t t.2.length).1=t;unfold fF;rw[f]
 ·obtain⟨i,hi,g⟩:=List.mem_iff_getElem.1 he;have:=q3 i (by simpa using hi)
  have j:t.2.getD i (0,0)=e:=by rw[aj,am hi,g];rfl
  dsimp only at this
  rw[j] at this
  exact this
theorem cM.cK:∀(n:Nat)(t:bX×List bN),cM k (fun _=>False) t.1->cM k (fun _=>False) (k.cK n t).1/\c7 k t.1 (k.cK n t).1/\(k.cK n t).2=t.2/\(k.mu t.1<n->e7 k (k.cK n t).1 (k.cK n t).2)
 |0,t,h=>⟨h,c7.refl _,rfl,fun e=>I⟩
 |n+1,t,h=>by
  obtain⟨l1,l2,i⟩:=h.c6;obtain⟨v1,v2⟩:=l1.kv;have m1:=(c9.c6 h.dy).mu;obtain⟨q,j⟩:=c9.kv l1.dy;unfold bL.cK;by_cases c:(k.kv (k.c6 t.1)).1=true
  ·rw[aq c];obtain⟨b,d,f,g⟩:=cM.cK n ((k.kv (k.c6 t.1)).2,t.2) v1;have:=j c;exact⟨b,(l2.trans v2).trans d,f,fun e=>g (by dsimp only;omega)⟩
  ·rw[ao c];have c2:(k.kv (k.c6 t.1)).1=false:=by simpa using c
   obtain⟨s1,s2⟩:=zO c2;rw[s1];obtain⟨w1,l,w3,m⟩:=cM.wa (t:=(k.c6 t.1,t.2)) l1;by_cases a:(k.wa (k.c6 t.1,t.2)).2=true
   ·rw[aq a];obtain⟨b,d,f,g⟩:=cM.cK n (k.wa (k.c6 t.1,t.2)).1 w1;have:=(c9.wa (t:=(k.c6 t.1,t.2)) l1.dy).2.2 a;dsimp only at this
    exact⟨b,(l2.trans l).trans d,f.trans w3,fun e=>g I⟩
   ·rw[ao a];have o:(k.wa (k.c6 t.1,t.2)).2=false:=by simpa using a
    obtain⟨q1,p⟩:=m o;rw[q1];exact⟨l1,l2,rfl,fun _=>⟨l1,i,s2,p⟩⟩
theorem cM.sp {t:bX×List bN}(h:cM k (fun _=>False) t.1):e7 k (k.sp t).1 (k.sp t).2/\c7 k t.1 (k.sp t).1/\(k.sp t).2=t.2:=by obtain⟨d,a,b,c⟩:=cM.cK (k.mu t.1+1) t h;exact⟨c I,a,b⟩
theorem cM.ke {t:bX×List bN}(h:cM k (fun _=>False) t.1)(x:Int):e7 k (k.ke t x).2.1 (k.ke t x).2.2/\c7 k t.1 (k.ke t x).2.1/\(k.ke t x).2.2=t.2/\k.al (k.ke t x).2.1 x=true:=by
 obtain⟨m1,b,c⟩:=h.ma x;obtain⟨d,a,e⟩:=cM.sp (t:=(k.ma t.1 x,t.2)) m1;refine⟨d,b.trans a,e,?_⟩
 have q:=a.co c;show(!k.co _ x)=true;have q:k.co (k.sp (k.ma t.1 x,t.2)).1 x=false:=q;show(!k.co (k.sp (k.ma t.1 x,t.2)).1 x)=true;rw[q];rfl
def bL.fA (k:bL):bX×List bN->bN->Bool×(bX×List bN):=cm (dE bX) (fun s x=>k.al s.1 x) k.ke
theorem e7.cm {t:bX×List bN}(h:e7 k t.1 t.2)(e:bN):e7 k (k.fA t e).2.1 (k.fA t e).2.2/\c7 k t.1 (k.fA t e).2.1:=by
 unfold bL.fA;cases c:k.al t.1 e.1
 ·rw[nt (o:=dE bX) (is:=fun s x=>k.al s.1 x) (kp:=k.ke) (s:=t) (e:=e) c];exact⟨h,c7.refl _⟩
 ·rw[nu (o:=dE bX) (is:=fun s x=>k.al s.1 x) (kp:=k.ke) (s:=t) (e:=e) c];obtain⟨a,b,g,d⟩:=h.iQ.ke e.2;show e7 k (k.ke t e.2).2.1 ((k.ke t e.2).2.2++[(e.1,e.2)])/\c7 k t.1 (k.ke t e.2).2.1;refine⟨⟨a.iQ,a.td,a.ep,fun f hd=>?_⟩,b⟩
  rcases List.mem_append.1 hd with hd|hd
  ·exact a.wq f hd
  ·rw[List.mem_singleton.1 hd];exact ap d
theorem e7.pl:∀(l:List bN)(u:List bN×List bN×(bX×List bN)),e7 k u.2.2.1 u.2.2.2->e7 k (l.foldl (ec k.fA) u).2.2.1 (l.foldl (ec k.fA) u).2.2.2/\c7 k u.2.2.1 (l.foldl (ec k.fA) u).2.2.1
 |[],u,h=>⟨h,c7.refl _⟩
 |e::l,u,h=>by
  rw[aI];have key:(ec k.fA u e).2.2=(k.fA u.2.2 e).2:=by unfold ec;split<;>rfl
  obtain⟨c1,c2⟩:=h.cm e;rw[<-key] at c1 c2;obtain⟨a,b⟩:=e7.pl l (ec k.fA u e) c1;exact⟨a,c2.trans b⟩
theorem e7.eu:∀(n:Nat)(t:bX×List bN)(a:List bN),e7 k t.1 t.2->e7 k (eu k.fA n t a).1.1 (eu k.fA n t a).1.2/\c7 k t.1 (eu k.fA n t a).1.1
 |0,t,a,h=>⟨h,c7.refl _⟩
 |n+1,t,a,h=>by
  obtain⟨b,d⟩:=e7.pl a ([],[],t) h;have b:e7 k (pts k.fA t a).2.2.1 (pts k.fA t a).2.2.2:=b;have d:c7 k t.1 (pts k.fA t a).2.2.1:=d;by_cases c:(pts k.fA t a).1.length=0
  ·rw[lA _ _ _ _ c];exact⟨b,d⟩
  ·rw[lB _ _ _ _ c];obtain⟨e,f⟩:=e7.eu n (pts k.fA t a).2.2 (pts k.fA t a).2.1 b;exact⟨e,d.trans f⟩
theorem e7.d_ {t:bX×List bN}(h:e7 k t.1 t.2)(r:List bN):e7 k (k.d_ t r).1 (k.d_ t r).2/\c7 k t.1 (k.d_ t r).1:=e7.eu _ t _ h
theorem cM.start (h:cu k dw){X:Int->Prop}:cM k X dw:=⟨h,fun _ _ a=>absurd rfl a,fun _ ha=>by simp[dw] at ha,fun _ _ a=>absurd rfl a⟩
theorem cM.cg {X:Int->Prop}(h:cM k X s):∀n,cM k X (k.cg s n)/\c7 k s (k.cg s n)/\∀i,i<n->k.co (k.cg s n) (k.s.rs.getD i 0)=false
 |0=>⟨h,c7.refl _,fun i hi=>I⟩
 |n+1=>by
  obtain⟨a,b,c⟩:=cM.cg h n;obtain⟨d,j2,b7⟩:=a.ma (k.s.rs.getD n 0)
  refine⟨d,b.trans j2,fun i hi=>?_⟩
  by_cases e:i=n
  ·rw[e];exact b7
  ·exact j2.co (c i I)
end
theorem mO {a:Wc}{S:bZ}(d:cu (S.s.j0 a) dw):e7 (S.s.j0 a) (S.b7 a) ((S.s.j0 a).d_ (S.j2 a) S.r).2/\c7 (S.s.j0 a) (S.j2 a).1 (S.b7 a)/\∀i,i<12->(S.s.j0 a).co (S.b7 a) (S.s.rs.getD i 0)=false:=by obtain⟨e,_,f⟩:=(cM.start (X:=fun _=>False) d).cg 12;obtain⟨g,b,_⟩:=cM.sp (t:=((S.s.j0 a).cg dw 12,S.q)) e;obtain⟨j,c⟩:=e7.d_ (t:=S.j2 a) g S.r;have b:c7 (S.s.j0 a) ((S.s.j0 a).cg dw 12) (S.j2 a).1:=b;exact⟨j,c,fun i hi=>c.co (b.co (f i hi))⟩
end Go.Proofs.YtjpjpjemibgjpaaGreat
