import Derived.Test.YtodmelffkfbalaaGreatDoorPlainRA
open Bool renaming false->F
namespace Go.Proofs.YtodmelffkfbalaaGreatDoor
def A0:List aU->Prop
 | .body _::_=>False
 | _=>True
theorem OG {a:ab}{r:List aU}(h:A0 (aE r)):aE (.body a::r)=.body a::aE r:=by grind [A0,aE]
theorem OH {a b:ab}{r:List aU}:aE (.body a::.body b::r)=aE (.body (a++b)::r):=by grind [aE]
theorem A9:∀(l:ab) (s:bN),s.a=4->cX s l=[]∧cM s l=s
 | [],s,_=>⟨rfl,rfl⟩
 | c :: t, s, h => by
   have e:cI s c=(s,[]):=by unfold cI;rw[if_pos h]
   have a:=A9 t s h;constructor
   . show(cI s c).2++cX (cI s c).1 t=[];rw[e];exact a.1
   . show cM (cI s c).1 t=s;rw[e];exact a.2
def ey:List aU->Prop
 | []=>True
 | .body _::r=>A0 r∧ey r
 | _::r=>ey r
theorem qz:∀l:List aU,ey (aE l)
 | []=>trivial
 | .head h::r=>by rw[aE];exact qz r
 | .fin::r=>by rw[aE];exact qz r
 | .fail c::r=>by rw[aE];exact qz r
 | .body a :: r => by
   have d:=qz r;rw[aE];cases f:aE r with
   | nil=>exact⟨trivial,trivial⟩
   | cons e q =>
     rw[f] at d;cases e with
     | body b=>exact d
     | head h=>exact⟨trivial,d⟩
     | fin=>exact⟨trivial,d⟩
     | fail c=>exact⟨trivial,d⟩
theorem nQ:∀l:List aU,ey l->aE l=l
 | [],_=>rfl
 | .head h::r,k=>by rw[aE,nQ r k]
 | .fin::r,k=>by rw[aE,nQ r k]
 | .fail c::r,k=>by rw[aE,nQ r k]
 | .body a :: r, k => by
   have e:=nQ r k.2;rw[OG (by rw[e];exact k.1),e]
theorem OS (l:List aU):aE (aE l)=aE l:=nQ _ (qz l)
theorem uL:∀(a b:List aU),aE (a++aE b)=aE (a++b)
 | [],b=>OS b
 | .head h::r,b=>by rw[gd,gd,aE,aE,uL r b]
 | .fin::r,b=>by rw[gd,gd,aE,aE,uL r b]
 | .fail c::r,b=>by rw[gd,gd,aE,aE,uL r b]
 | .body x::r,b=>by rw[gd,gd,aE,aE,uL r b]
theorem OR (x:ab)(l r:List aU)(h:aE l=aE r):aE (.body x::l)=aE (.body x::r):=by rw[aE,aE,h]
theorem sc:∀(a b:List aU),aE (aE a++b)=aE (a++b)
 | [],b=>rfl
 | .head h::r,b=>by rw[aE,gd,gd,aE,aE,sc r b]
 | .fin::r,b=>by rw[aE,gd,gd,aE,aE,sc r b]
 | .fail c::r,b=>by rw[aE,gd,gd,aE,aE,sc r b]
 | .body x :: r, b => by
   have d:=sc r b;have f:=OR x _ _ d;rw[gd,<-f];have g:aE (.body x::r)=match aE r with | .body y::q=>.body (x++y)::q | q=>.body x::q:=by
    rw[aE];cases aE r with
    | nil=>rfl
    | cons e q=>cases e <;> rfl
   rw[g];cases aE r with
   | nil=>rfl
   | cons e q => cases e with
     | body y =>
       show aE (.body (x++y)::(q++b))=aE (.body x::.body y::(q++b))
       rw[OH]
     | head h=>rfl
     | fin=>rfl
     | fail c=>rfl
def iq:List gz->Nat ⊕ ab
 | []=>.inr []
 | f :: r => if (bP f.1 f.2).2 ≠ 0 then .inl (bP f.1 f.2).2 else match iq r with
   | .inl c=>.inl c
   | .inr s=>.inr ((bP f.1 f.2).1++13::10::s)
def mq:ab:=[67,111,110,116,101,110,116,45,76,101,110,103,116,104]
def xA:ab:=[72,84,84,80,47,49,46,49]
def jp (h:dg)(body:ab):ab×Nat :=
 if fj h.e=F then ([],6)
 else if h.b.head?≠some 47∨32∈h.b∨9∈h.b∨dO h.b=F then ([],5)
 else if 200<h.e.length+h.b.length+10∨4000<body.length then ([],4)
 else if 16<=h.a.length then ([],8)
 else if dZ h.a pz≠[]∨dZ h.a pA≠[] then ([],12)
 else if (dZ h.a qB).length≠1 then ([],13)
 else match iq h.a with
  | .inl c=>([],c)
  | .inr s=>(h.e++32::(h.b++32::(xA++13::10::(s++(mq++[58,32]++bx 8 body.length++13::10::13::10::body)))),0)
theorem OO:∀(m w:ab),(∀b∈m,b≠32)->mX w m=[w++m]:=by intro l;induction l <;> grind [mX]
theorem F6:∀(m w t:ab),(∀b∈m,b≠32)->mX w (m++32::t)=(w++m)::mX [] t:=by intro l;induction l <;> grind [mX]
theorem F7:∀(f n:Nat),n<10 ^ (f+1)->∀b∈bx f n,er b.toNat=true∧cf.contains b=F:=by
 have c:∀j,j<10->∀b∈bx 0 j,er b.toNat=true∧cf.contains b=F:=fun j d=>(show ∀j:Fin 10,∀b∈bx 0 j.val,er b.toNat=true∧cf.contains b=F by decide +kernel) ⟨j,d⟩;intro f;induction f with
 | zero=>intro n h b a;exact c n (by simpa using h) b a
 | succ f e =>
   intro n h b a;unfold bx at a;split at a
   . rename_i g;exact c n g b a
   . rw[eC] at a;rcases a with a | a
     . exact e (n / 10) (by rw[Nat.pow_succ] at h;omega) b a
     . exact c (n % 10) (by omega) b a
theorem Ox (n:Nat)(h:n<=4000):(bP mq (bx 8 n)).2=0∧(bP mq (bx 8 n)).1=mq++[58,32]++bx 8 n:=by
 have c:=F7 8 n (by omega);have f:=gx 8 n;have d:mq.length=14:=rfl;unfold bP;rw[if_neg (by decide),if_neg (by rw[d];omega),if_neg]
 . exact⟨rfl,rfl⟩
 . rintro (e | e)
   . have:dO (bx 8 n)=true:=sE.2 fun b a=>(c b a).1;rw[this] at e;cases e
   . exact e (Cc fun b a=>(c b a).2)
def ms:List aU->Bool
 | []=>F
 | [.body _]=>true
 | _::r=>ms r
def aU.a:aU->Bool
 | .body _=>true
 | _=>F
theorem uJ:∀(l:List aU) (e:aU),ey l->(e.a=true->ms l=F)->ey (l++[e])
 | [],e,_,_=>by cases e <;> first | exact trivial | exact⟨trivial,trivial⟩
 | [x], e, c, h => by
   cases x with
   | body a =>
     cases e with
     | body b=>exact absurd (h rfl) (by simp[ms])
     | head _=>exact⟨trivial,trivial⟩
     | fin=>exact⟨trivial,trivial⟩
     | fail _=>exact⟨trivial,trivial⟩
   | head _=>cases e <;> first | exact trivial | exact⟨trivial,trivial⟩
   | fin=>cases e <;> first | exact trivial | exact⟨trivial,trivial⟩
   | fail _=>cases e <;> first | exact trivial | exact⟨trivial,trivial⟩
 | x :: y :: r, e, c, h => by
   have d:e.a=true->ms (y::r)=F:=fun k=>by
    have:=h k;cases x <;> exact this
   cases x with
   | body a=>exact⟨by have:=c.1;cases y <;> exact this,uJ (y::r) e c.2 d⟩
   | head _=>exact uJ (y::r) e c d
   | fin=>exact uJ (y::r) e c d
   | fail _=>exact uJ (y::r) e c d
theorem OB {l:List aU}{e:aU}(a:ey l)(h:e.a=true->ms l=F):aE (l++[e])=l++[e]:=nQ _ (uJ l e a h)
theorem uK:∀(l:List aU) (a b:ab),ey (l++[.body a])->ey (l++[.body b])
 | [],_,_,h=>h
 | [.body x],_,_,h=>absurd h.1 (fun k=>k)
 | .body x::y::r,a,b,h=>⟨by have:=h.1;cases y <;> exact this,uK (y::r) a b h.2⟩
 | .head _::r,a,b,h=>uK r a b h
 | .fin::r,a,b,h=>uK r a b h
 | .fail _::r,a,b,h=>uK r a b h
theorem OA {l:List aU}{a b:ab}(h:ey (l++[.body a])):aE (l++[.body a]++[.body b])=l++[.body (a++b)]:=by
 rw[iY,<-uL];exact nQ _ (uK l a (a++b) h)
theorem FQ:∀(l:List aU) (e:aU),ms (l++[e])=e.a
 | [],e=>by cases e <;> rfl
 | x::[],e=>by cases x <;> cases e <;> rfl
 | x :: y :: r, e => by
   have:=FQ (y::r) e;cases x <;> exact this
theorem Gi:∀(l:List aU),ms l=true->∃q a,l=q++[.body a]
 | [],h=>by cases h
 | [x], h => by
   cases x with
   | body a=>exact⟨[],a,rfl⟩
   | head _=>cases h
   | fin=>cases h
   | fail _=>cases h
 | x :: y :: r, h => by
   have:ms (y::r)=true:=by cases x <;> exact h
   obtain⟨q,a,e⟩:=Gi (y::r) this;exact⟨x::q,a,by rw[e];rfl⟩
theorem F8 (l a b:List aU):aE (aE (l++a)++b)=aE (l++(a++b)):=by rw[sc,iY]
theorem Ov (s:bN)(l:ab)(c:UInt8):cX s (l++[c])=cX s l++(cI (cM s l) c).2:=by grind [cX,cI,cM,Gg]
theorem Ow (s:bN)(l:ab)(c:UInt8):cM s (l++[c])=(cI (cM s l) c).1:=by rw[A7];rfl
structure jo (h:dg):Prop where
 d:h.e.length<=200
 b:h.b.length<=200
 e:h.d<=1
 a:h.a.length<=16
 c:∀f∈h.a,f.1.length<=200∧f.2.length<=200
structure fI (s:bN):Prop where
 d:s.a<=4
 a:qu s.b
 b:s.b.a=0
 e:s.a=1->jo s.c∧s.c.c=0
 g:s.a=2->0<s.e∧s.e<=4000
 c:s.a=3->jT s.d∧s.d.a=0∧s.d.b≠4
def aU.f:aU->Prop
 | .head h=>jo h
 | _=>True
theorem fI.B:fI pC:=⟨ax _,qu.a,rfl,(fun h=>by cases h),(fun h=>by cases h),(fun h=>by cases h)⟩
theorem OP:∀(t w:ab),(mX w t).length=t.count 32+1:=by intro l;induction l <;> grind [mX]
theorem A3 {c:UInt8}{t:ab}(h:aV c t<t.length):t=t.take (aV c t)++c::t.drop (aV c t+1):=by
 conv=>lhs;rw[<-iN (aV c t) t,kt h,Dc h]
theorem xw {c:UInt8}{t:ab}:∀b∈t.take (aV c t),b≠c:=by
 intro b a;obtain⟨j,d,rfl⟩:=List.mem_iff_getElem.1 a;rw[bU] at d;rw[List.getElem_take];exact Db (by omega) (by omega)
theorem F9 {c:UInt8}{t:ab}(h:0<t.count c):aV c t<t.length:=by grind [aV]
theorem FY {c:UInt8}{t:ab}(h:aV c t<t.length):t.count c=(t.drop (aV c t+1)).count c+1:=by grind [aV,A3,xw]
theorem F0 {t:ab}(h:t.count 32=2):aV 32 t<t.length∧aV 32 (t.drop (aV 32 t+1))<(t.drop (aV 32 t+1)).length ∧
 mX [] t=[t.take (aV 32 t),(t.drop (aV 32 t+1)).take (aV 32 (t.drop (aV 32 t+1))),(t.drop (aV 32 t+1)).drop (aV 32 (t.drop (aV 32 t+1))+1)]:=by
 have a:=F9 (c:=32) (t:=t) (by omega);have k:=FY a;have d:=F9 (c:=32) (t:=t.drop (aV 32 t+1)) (by omega);have l:=FY d;refine⟨a,d,?_⟩;have g:=A3 a;have f:=A3 d;have i:∀b∈(t.drop (aV 32 t+1)).drop (aV 32 (t.drop (aV 32 t+1))+1),b≠32:=fun b j e=>by
  have:=List.count_pos_iff.2 (e▸j);omega
 conv=>lhs;rw[g]
 rw[F6 _ [] _ xw,f,F6 _ [] _ xw,OO _ [] i];simp only[kX];rw[<-f]
theorem Gb {t:ab}(h:t.count 32≠2):kP t=.inl 5:=by grind [kP,OP]
def A4 (m g v:ab):Nat ⊕ dg :=
 if fj m=F then .inl 6
 else if g.head?≠some 47∨9∈g then .inl 5
 else if v=[72,84,84,80,47,49,46,49] then .inr ⟨m,g,1,[],0⟩
 else if v=[72,84,84,80,47,49,46,48] then .inr ⟨m,g,0,[],0⟩
 else .inl 11
theorem FR {t:ab}(h:t.count 32=2):kP t=A4 (t.take (aV 32 t)) ((t.drop (aV 32 t+1)).take (aV 32 (t.drop (aV 32 t+1)))) ((t.drop (aV 32 t+1)).drop (aV 32 (t.drop (aV 32 t+1))+1)):=by
 unfold kP;rw[(F0 h).2.2];rfl
theorem OC {t:ab}{h:dg}(g:t.length<=200)(e:kP t=.inr h):jo h∧h.c=0:=by
 by_cases b:t.count 32=2
 . rw[FR b] at e;unfold A4 at e;have c:(t.take (aV 32 t)).length<=200:=by rw[bU];omega
   have d:((t.drop (aV 32 t+1)).take (aV 32 (t.drop (aV 32 t+1)))).length<=200:=by rw[bU,cO];omega
   split at e
   . cases e
   . split at e
     . cases e
     . split at e
       . injection e with e;subst e;exact⟨⟨c,d,ak _,ax _,fun f a=>by cases a⟩,rfl⟩
       . split at e
         . injection e with e;subst e;exact⟨⟨c,d,ax _,ax _,fun f a=>by cases a⟩,rfl⟩
         . cases e
 . rw[Gb b] at e;cases e
theorem F5:∀(f:ab) (l:List (ab)) (n k:Int),0<=n->lB f n l=.inr k->0<=k
 | f,[],n,k,c,e=>by injection e with e;omega
 | f, v :: t, n, k, c, e => by
   rw[lB] at e;split at e
   . cases e
   . split at e
     . cases e
     . refine F5 f t _ k ?_ e;have:(bB 10 9 v).1=0∨(bB 10 9 v).1=lm 10 v∧v.all (gw 10)=true∧v.length<=9:=by
        by_cases b:v=[]∨(9:Int)<v.length
        . rw[yV 10 9 v b];exact Or.inl rfl
        . cases a:v.all (gw 10)
          . rw[yN 10 9 v a];exact Or.inl rfl
          . rw[yZ 10 9 v (fun e=>b (Or.inl e)) (fun e=>b (Or.inr e)) a];exact Or.inr ⟨rfl,rfl,by omega⟩
       rcases this with g | ⟨g,a,d⟩
       . omega
       . rw[g];exact(we 10 (by omega) (by omega) v a d).1
theorem F1 {h:dg}{k:Int}(e:mr h=.inr k):k=-1∨0<=k∧k<=4000:=by
 unfold mr at e;split at e
 . cases e
 . split at e
   . split at e
     . cases e
     . split at e
       . cases e
       . injection e with e;exact Or.inl e.symm
   . split at e
     . cases e
     . rename_i n a;split at e
       . cases e
       . injection e with e;subst e;exact Or.inr ⟨F5 _ _ 0 _ (by omega) a,by omega⟩
theorem fI.f {s:bN}(h:fI s):fI (kO s):=⟨ak _,h.a,h.b,(fun e=>by cases e),(fun e=>by cases e),(fun e=>by cases e)⟩
theorem fI.y {s:bN}(h:fI s)(r:s.a=0∨s.a=1)(t:ab)(i:t.length<=200):fI (ip s t).1∧∀e∈(ip s t).2,e.f:=by
 unfold ip;by_cases m:s.a=0
 . rw[if_pos m];by_cases g:t=[]
   . rw[if_pos g];exact⟨h,fun e a=>by cases a⟩
   . rw[if_neg g];cases d:kP t with
     | inl c=>exact⟨h.f,fun e a=>by simp at a;subst a;exact trivial⟩
     | inr u=>exact⟨⟨by show 1<=4;omega,h.a,h.b,fun _=>OC i d,(fun e=>by cases e),(fun e=>by cases e)⟩,fun e a=>by cases a⟩
 . rw[if_neg m];obtain⟨b,j⟩:=h.e (by omega);have l:∀k:Int,jo { s.c with c:=k }:=fun k=>⟨b.d,b.b,b.e,b.a,b.c⟩;by_cases g:t=[]
   . rw[if_pos g];cases p:mr s.c with
     | inl c=>exact⟨h.f,fun e a=>by simp at a;subst a;exact trivial⟩
     | inr k =>
       have v:=F1 p;simp only;by_cases n:k=0
       . rw[if_pos n];refine⟨⟨ax _,h.a,h.b,(fun e=>by cases e),(fun e=>by cases e),(fun e=>by cases e)⟩,fun e a=>?_⟩;simp at a;rcases a with rfl | rfl
         . exact l k
         . exact trivial
       . rw[if_neg n];by_cases o:0<k
         . rw[if_pos o];refine⟨⟨by show 2<=4;omega,h.a,h.b,(fun e=>by cases e),fun _=>⟨by show 0<k.toNat;omega,by show k.toNat<=4000;omega⟩,(fun e=>by cases e)⟩,fun e a=>?_⟩;simp at a;subst a;exact l k
         . rw[if_neg o];refine⟨⟨by show 3<=4;omega,h.a,h.b,(fun e=>by cases e),(fun e=>by cases e),fun _=>⟨jT.y,rfl,by show(0:Nat)≠4;omega⟩⟩,fun e a=>?_⟩;simp at a;subst a;exact l k
   . rw[if_neg g];split
     . exact⟨h.f,fun e a=>by simp at a;subst a;exact trivial⟩
     . rename_i q;split
       . exact⟨h.f,fun e a=>by simp at a;subst a;exact trivial⟩
       . have:=C9 t;refine⟨⟨h.d,h.a,h.b,fun _=>⟨⟨b.d,b.b,b.e,?_,fun f d=>?_⟩,j⟩,h.g,h.c⟩,fun e a=>by cases a⟩
         . have:=b.a;show(s.c.a++[((aY t).b,(aY t).c)]).length<=16;rw[aD];simp;omega
         . rcases eC.1 d with d | d
           . exact b.c f d
           . simp at d;subst d;exact⟨cq this.1 i,cq this.2 i⟩
theorem xz {s:cx}{c:UInt8}(h:qu s):(cV s c).length<=200∧∀b∈cV s c,er b.toNat=true:=by
 unfold cV;split
 . exact⟨h.c,h.d⟩
 . exact⟨ax _,fun b a=>by cases a⟩
theorem fI.r {s:bN}(h:fI s)(c:UInt8):fI (cI s c).1∧∀e∈(cI s c).2,e.f:=by
 have g:fI { s with a:=0 }:=⟨ax _,h.a,h.b,(fun e=>by cases e),(fun e=>by cases e),(fun e=>by cases e)⟩;unfold cI;split
 . exact⟨h,fun e b=>by cases b⟩
 . split
   . rename_i d;obtain⟨l,m⟩:=h.g d;split
     . refine⟨⟨ax _,h.a,h.b,(fun e=>by cases e),(fun e=>by cases e),(fun e=>by cases e)⟩,fun e b=>?_⟩;simp at b;rcases b with rfl | rfl <;> exact trivial
     . refine⟨⟨h.d,h.a,h.b,h.e,fun _=>⟨by show 0<s.e-1;omega,by show s.e-1<=4000;omega⟩,h.c⟩,fun e b=>?_⟩;simp at b;subst b;exact trivial
   . split
     . rename_i f;obtain⟨i,n,o⟩:=h.c f;split
       . exact⟨h.f,fun e b=>by simp at b;subst b;exact trivial⟩
       . split
         . exact⟨g,fun e b=>by simp at b;subst b;exact trivial⟩
         . rename_i p j;refine⟨⟨h.d,h.a,h.b,h.e,h.g,fun _=>⟨i.r c,by show(de s.d c).a=0;omega,j⟩⟩,fun e b=>?_⟩;unfold oJ at b;split at b
           . cases b
           . simp at b;subst b;exact trivial
     . rename_i q d f;have r:=h.d;split
       . exact⟨h.f,fun e b=>by simp at b;subst b;exact trivial⟩
       . split
         . have k:fI { s with b:=dw }:=⟨h.d,qu.a,rfl,h.e,h.g,h.c⟩;exact k.y (by show s.a=0∨s.a=1;omega) _ (xz h.a).1
         . exact⟨⟨h.d,xk h.a,by rename_i a _;show(bi s.b c).a=0;omega,h.e,h.g,h.c⟩,fun e b=>by cases b⟩
theorem fI.j:∀(l:ab) {s:bN},fI s->fI (cM s l)
 | [],_,h=>h
 | c::t,s,h=>fI.j t (s:=(cI s c).1) (h.r c).1
theorem A8:∀(l:ab) {s:bN},fI s->∀e∈cX s l,e.f
 | [],_,_=>fun e a=>by cases a
 | c :: t, s, h => fun e a => by
   rcases eC.1 a with a | a
   . exact(h.r c).2 e a
   . exact A8 t (h.r c).1 e a
theorem uI:∀(l:List aU),(∀e∈l,e.f)->∀e∈aE l,e.f
 | [],_=>fun e d=>by cases d
 | .head h :: r, k => fun e d => by
   rw[aE] at d;rcases fS.1 d with rfl | d
   . exact k _ (lM ..)
   . exact uI r (fun x f=>k x (iw _ f)) e d
 | .fin :: r, k => fun e d => by
   rw[aE] at d;rcases fS.1 d with rfl | d
   . exact trivial
   . exact uI r (fun x f=>k x (iw _ f)) e d
 | .fail c :: r, k => fun e d => by
   rw[aE] at d;rcases fS.1 d with rfl | d
   . exact trivial
   . exact uI r (fun x f=>k x (iw _ f)) e d
 | .body a :: r, k => fun e d => by
   have g:=uI r (fun x f=>k x (iw _ f));rw[aE] at d;cases i:aE r with
   | nil=>rw[i] at d;simp at d;subst d;exact trivial
   | cons y q =>
     rw[i] at d g;cases y with
     | body b =>
       rcases fS.1 d with rfl | d
       . exact trivial
       . exact g e (iw _ d)
     | head h =>
       rcases fS.1 d with rfl | d
       . exact trivial
       . exact g e d
     | fin =>
       rcases fS.1 d with rfl | d
       . exact trivial
       . exact g e d
     | fail c =>
       rcases fS.1 d with rfl | d
       . exact trivial
       . exact g e d
def bQ:List aU->Nat
 | []=>0
 | .body a::r=>a.length+bQ r
 | _::r=>bQ r
def et (l:List aU):Prop:=∀a,aU.body a∈l->a≠[]
theorem qA:∀a b:List aU,bQ (a++b)=bQ a+bQ b
 | [],b=>by simp[bQ]
 | .body x::r,b=>by rw[gd,bQ,bQ,qA r b];omega
 | .head _::r,b=>qA r b
 | .fin::r,b=>qA r b
 | .fail _::r,b=>qA r b
theorem se:∀l:List aU,bQ (aE l)=bQ l
 | []=>rfl
 | .head _::r=>by rw[aE];exact se r
 | .fin::r=>by rw[aE];exact se r
 | .fail _::r=>by rw[aE];exact se r
 | .body a :: r => by
   have c:=se r;rw[aE];cases d:aE r with
   | nil=>rw[d] at c;simp only[bQ] at c ⊢;omega
   | cons e q =>
     rw[d] at c;cases e with
     | body b=>simp only[bQ,aD] at c ⊢;omega
     | head _=>simp only[bQ] at c ⊢;omega
     | fin=>simp only[bQ] at c ⊢;omega
     | fail _=>simp only[bQ] at c ⊢;omega
theorem rY:∀l:List aU,(aE l).length<=l.length
 | []=>ak _
 | .head _::r=>by rw[aE,bG,bG];have:=rY r;omega
 | .fin::r=>by rw[aE,bG,bG];have:=rY r;omega
 | .fail _::r=>by rw[aE,bG,bG];have:=rY r;omega
 | .body a :: r => by
   have b:=rY r;rw[aE];cases c:aE r with
   | nil=>rw[c] at b;simp only[bG,iv] at b ⊢;omega
   | cons e q =>
     rw[c] at b;cases e <;> simp only[bG] at b ⊢ <;> omega
theorem sf:∀l:List aU,et l->et (aE l)
 | [],h=>h
 | .head _ :: r, h => by
   have d:=sf r (fun a ha=>h a (iw _ ha));rw[aE];intro a ha;rcases fS.1 ha with ha | ha
   . cases ha
   . exact d a ha
 | .fin :: r, h => by
   have d:=sf r (fun a ha=>h a (iw _ ha));rw[aE];intro a ha;rcases fS.1 ha with ha | ha
   . cases ha
   . exact d a ha
 | .fail _ :: r, h => by
   have d:=sf r (fun a ha=>h a (iw _ ha));rw[aE];intro a ha;rcases fS.1 ha with ha | ha
   . cases ha
   . exact d a ha
 | .body x :: r, h => by
   have d:=sf r (fun a ha=>h a (iw _ ha));have f:x≠[]:=h x (lM ..);rw[aE];cases g:aE r with
   | nil =>
     intro a ha;simp at ha;subst ha;exact f
   | cons e q =>
     rw[g] at d;have c:∀a,aU.body a∈aU.body x::e::q->a≠[]:=fun a ha=>by
      rcases fS.1 ha with ha | ha
      . injection ha with ha;subst ha;exact f
      . exact d a ha
     cases e with
     | body b =>
       intro a ha;rcases fS.1 ha with ha | ha
       . injection ha with ha;subst ha;simp[f]
       . exact d a (iw _ ha)
     | head _=>exact c
     | fin=>exact c
     | fail _=>exact c
theorem FU {a b:List aU}(h:et a)(k:et b):et (a++b):=by grind [et]
theorem OM (s:bN)(t:ab):(ip s t).2.length<=2∧bQ (ip s t).2=0∧et (ip s t).2:=by grind [ip,bQ,et]
theorem ON (s:bN)(c:UInt8):(cI s c).2.length<=2∧bQ (cI s c).2<=1∧et (cI s c).2:=by
 have e:∀c,([aU.fail c]:List aU).length<=2∧bQ [aU.fail c]<=1∧et [aU.fail c]:=fun c=>⟨by simp,ax _,fun a ha=>by simp at ha⟩;have b:([]:List aU).length<=2∧bQ []<=1∧et []:=⟨by simp,ax _,fun a ha=>by cases ha⟩;unfold cI;split
 . exact b
 . split
   . split
     . exact⟨by simp,by simp[bQ],fun a ha=>by simp at ha;subst ha;simp⟩
     . exact⟨by simp,by simp[bQ],fun a ha=>by simp at ha;subst ha;simp⟩
   . split
     . split
       . exact e _
       . split
         . exact⟨by simp,ax _,fun a ha=>by simp at ha⟩
         . have:=Iu s.d c;unfold oJ;split
           . exact b
           . rename_i d;exact⟨by simp,by simp only[bQ];omega,fun a ha=>by simp at ha;subst ha;exact d⟩
     . split
       . exact e _
       . split
         . have:=OM { s with b:=dw } (cV s.b c);exact⟨this.1,by omega,this.2.2⟩
         . exact b
theorem xx:∀(l:ab) (s:bN),(cX s l).length<=2*l.length∧bQ (cX s l)<=l.length∧et (cX s l)
 | [],s=>⟨by simp[cX],by simp[cX,bQ],fun a ha=>by cases ha⟩
 | c :: t, s => by
   have b:=ON s c;have d:=xx t (cI s c).1;rw[cX,aD,qA,bG];exact⟨by omega,by omega,FU b.2.2 d.2.2⟩
theorem Gc (s:bN)(l:ab):(aE (cX s l)).length<=2*l.length∧bQ (aE (cX s l))<=l.length∧et (aE (cX s l))∧ey (aE (cX s l)):=by grind [aE,cX,bQ,et,ey,xx,rY,se,sf,qz]
def xu:ab:=[67,111,110,116,101,110,116,45,76,101,110,103,116,104]
theorem FL {n:Nat}(h:n<1000000000):(bP xu (bx 8 n)).2=0∧(bP xu (bx 8 n)).1=xv++bx 8 n:=by
 have c:=F7 8 n h;have f:=gx 8 n;have d:xu.length=14:=rfl;unfold bP;rw[if_neg (by decide),if_neg (by rw[d];omega),if_neg]
 . exact⟨rfl,rfl⟩
 . rintro (e | e)
   . have:dO (bx 8 n)=true:=sE.2 fun b a=>(c b a).1;rw[this] at e;cases e
   . exact e (Cc fun b a=>(c b a).2)
theorem FW:∀(b:List gz) (s:ab),iq b=.inr s->s.length<=202*b.length
 | [],s,h=>by injection h with h;subst h;exact ax _
 | f :: r, s, h => by
   rw[iq] at h;split at h
   . cases h
   . rename_i d;have d:(bP f.1 f.2).2=0:=by omega
     cases a:iq r with
     | inl c=>rw[a] at h;cases h
     | inr t =>
       rw[a] at h;injection h with h;subst h;have e:=FW r t a;have g:(bP f.1 f.2).1.length<=200:=by have i:=C7 f.1 f.2;have j:=(Jf d).2;omega
       simp only[aD,bG];omega
theorem OJ (h:dg)(a:ab)(b:(jp h a).2=0):0<(jp h a).1.length∧(jp h a).1.length<=8000:=by
 unfold jp at b ⊢;by_cases k:fj h.e=F
 . rw[if_pos k] at b;cases b
 rw[if_neg k] at b ⊢;by_cases l:h.b.head?≠some 47∨32∈h.b∨9∈h.b∨dO h.b=F
 . rw[if_pos l] at b;cases b
 rw[if_neg l] at b ⊢;by_cases m:200<h.e.length+h.b.length+10∨4000<a.length
 . rw[if_pos m] at b;cases b
 rw[if_neg m] at b ⊢;by_cases n:16<=h.a.length
 . rw[if_pos n] at b;cases b
 rw[if_neg n] at b ⊢;by_cases o:dZ h.a pz≠[]∨dZ h.a pA≠[]
 . rw[if_pos o] at b;cases b
 rw[if_neg o] at b ⊢;by_cases p:(dZ h.a qB).length≠1
 . rw[if_pos p] at b;cases b
 rw[if_neg p] at b ⊢;cases f:iq h.a with
 | inl c =>
   rw[f] at b;exfalso;have g:∀i c,iq i=.inl c->c≠0:=by
    intro i;induction i with
    | nil=>intro c e;cases e
    | cons x r q =>
      intro c e;rw[iq] at e;split at e
      . rename_i t;injection e with e;subst e;exact t
      . cases j:iq r with
        | inl d=>rw[j] at e;injection e with e;subst e;exact q d j
        | inr d=>rw[j] at e;cases e
   exact g _ c f b
 | inr s =>
   have w:=FW h.a s f;have y:=(gx 8 a.length).1;have u:xA.length=8:=rfl;have v:mq.length=14:=rfl;simp only[aD,bG,iv,u,v];omega
