import Derived.Test.YtodmelffkfbalaaGreatDoorPlainRA
open Bool renaming false->F
namespace Go.Proofs.YtodmelffkfbalaaGreatDoor
def AW:List aU->Prop
 | .body _::_=>False
 | _=>True
theorem OS {a:ab}{r:List aU}(h:AW (aE r)):aE (.body a::r)=.body a::aE r:=by grind [AW,aE]
theorem OT {a b:ab}{r:List aU}:aE (.body a::.body b::r)=aE (.body (a++b)::r):=by grind [aE]
theorem A6:∀(l:ab) (s:bL),s.a=4->cV s l=[]∧cL s l=s
 | [],s,_=>⟨rfl,rfl⟩
 | c :: t, s, h => by
   have e:cH s c=(s,[]):=by unfold cH;rw[if_pos h]
   have a:=A6 t s h;constructor
   . show(cH s c).2++cV (cH s c).1 t=[];rw[e];exact a.1
   . show cL (cH s c).1 t=s;rw[e];exact a.2
def eC:List aU->Prop
 | []=>True
 | .body _::r=>AW r∧eC r
 | _::r=>eC r
theorem qC:∀l:List aU,eC (aE l)
 | []=>trivial
 | .head h::r=>by rw[aE];exact qC r
 | .fin::r=>by rw[aE];exact qC r
 | .fail c::r=>by rw[aE];exact qC r
 | .body a :: r => by
   have d:=qC r;rw[aE];cases f:aE r with
   | nil=>exact⟨trivial,trivial⟩
   | cons e q =>
     rw[f] at d;cases e with
     | body b=>exact d
     | head h=>exact⟨trivial,d⟩
     | fin=>exact⟨trivial,d⟩
     | fail c=>exact⟨trivial,d⟩
theorem nW:∀l:List aU,eC l->aE l=l
 | [],_=>rfl
 | .head h::r,k=>by rw[aE,nW r k]
 | .fin::r,k=>by rw[aE,nW r k]
 | .fail c::r,k=>by rw[aE,nW r k]
 | .body a :: r, k => by
   have e:=nW r k.2;rw[OS (by rw[e];exact k.1),e]
theorem O3 (l:List aU):aE (aE l)=aE l:=nW _ (qC l)
theorem uN:∀(a b:List aU),aE (a++aE b)=aE (a++b)
 | [],b=>O3 b
 | .head h::r,b=>by rw[ge,ge,aE,aE,uN r b]
 | .fin::r,b=>by rw[ge,ge,aE,aE,uN r b]
 | .fail c::r,b=>by rw[ge,ge,aE,aE,uN r b]
 | .body x::r,b=>by rw[ge,ge,aE,aE,uN r b]
theorem O2 (x:ab)(l r:List aU)(h:aE l=aE r):aE (.body x::l)=aE (.body x::r):=by rw[aE,aE,h]
theorem si:∀(a b:List aU),aE (aE a++b)=aE (a++b)
 | [],b=>rfl
 | .head h::r,b=>by rw[aE,ge,ge,aE,aE,si r b]
 | .fin::r,b=>by rw[aE,ge,ge,aE,aE,si r b]
 | .fail c::r,b=>by rw[aE,ge,ge,aE,aE,si r b]
 | .body x :: r, b => by
   have d:=si r b;have f:=O2 x _ _ d;rw[ge,<-f];have g:aE (.body x::r)=match aE r with | .body y::q=>.body (x++y)::q | q=>.body x::q:=by
    rw[aE];cases aE r with
    | nil=>rfl
    | cons e q=>cases e <;> rfl
   rw[g];cases aE r with
   | nil=>rfl
   | cons e q => cases e with
     | body y =>
       show aE (.body (x++y)::(q++b))=aE (.body x::.body y::(q++b))
       rw[OT]
     | head h=>rfl
     | fin=>rfl
     | fail c=>rfl
def iq:List gA->Nat ⊕ ab
 | []=>.inr []
 | f :: r => if (bO f.1 f.2).2 ≠ 0 then .inl (bO f.1 f.2).2 else match iq r with
   | .inl c=>.inl c
   | .inr s=>.inr ((bO f.1 f.2).1++13::10::s)
def mq:ab:=[67,111,110,116,101,110,116,45,76,101,110,103,116,104]
def xx:ab:=[72,84,84,80,47,49,46,49]
def jp (h:df)(body:ab):ab×Nat :=
 if fi h.e=F then ([],6)
 else if h.b.head?≠some 47∨32∈h.b∨9∈h.b∨dP h.b=F then ([],5)
 else if 200<h.e.length+h.b.length+10∨4000<body.length then ([],4)
 else if 16<=h.a.length then ([],8)
 else if ef h.a pG≠[]∨ef h.a pH≠[] then ([],12)
 else if (ef h.a qE).length≠1 then ([],13)
 else match iq h.a with
  | .inl c=>([],c)
  | .inr s=>(h.e++32::(h.b++32::(xx++13::10::(s++(mq++[58,32]++bw 8 body.length++13::10::13::10::body)))),0)
theorem OZ:∀(m w:ab),(∀b∈m,b≠32)->ng w m=[w++m]:=by intro l;induction l <;> grind [ng]
theorem Ga:∀(m w t:ab),(∀b∈m,b≠32)->ng w (m++32::t)=(w++m)::ng [] t:=by intro l;induction l <;> grind [ng]
theorem Gb:∀(f n:Nat),n<10 ^ (f+1)->∀b∈bw f n,ex b.toNat=true∧bX.contains b=F:=by
 have c:∀j,j<10->∀b∈bw 0 j,ex b.toNat=true∧bX.contains b=F:=fun j d=>(show ∀j:Fin 10,∀b∈bw 0 j.val,ex b.toNat=true∧bX.contains b=F by decide +kernel) ⟨j,d⟩;intro f;induction f with
 | zero=>intro n h b a;exact c n (by simpa using h) b a
 | succ f e =>
   intro n h b a;unfold bw at a;split at a
   . rename_i g;exact c n g b a
   . rw[eJ] at a;rcases a with a | a
     . exact e (n / 10) (by rw[Nat.pow_succ] at h;omega) b a
     . exact c (n % 10) (by omega) b a
theorem OH (n:Nat)(h:n<=4000):(bO mq (bw 8 n)).2=0∧(bO mq (bw 8 n)).1=mq++[58,32]++bw 8 n:=by
 have c:=Gb 8 n (by omega);have f:=gz 8 n;have d:mq.length=14:=rfl;unfold bO;rw[if_neg (by decide),if_neg (by rw[d];omega),if_neg]
 . exact⟨rfl,rfl⟩
 . rintro (e | e)
   . have:dP (bw 8 n)=true:=sI.2 fun b a=>(c b a).1;rw[this] at e;cases e
   . exact e (Cf fun b a=>(c b a).2)
def ms:List aU->Bool
 | []=>F
 | [.body _]=>true
 | _::r=>ms r
def aU.a:aU->Bool
 | .body _=>true
 | _=>F
theorem uL:∀(l:List aU) (e:aU),eC l->(e.a=true->ms l=F)->eC (l++[e])
 | [],e,_,_=>by cases e <;> first | exact trivial | exact⟨trivial,trivial⟩
 | [x], e, c, h => by
   cases x with
   | body a =>
     cases e with
     | body b=>exact absurd (h rfl) (by simp[ms])
     | head _=>exact⟨trivial,trivial⟩
     | fin=>exact⟨trivial,trivial⟩
     | fail _=>exact⟨trivial,trivial⟩
   | head _=>cases e <;> first | exact trivial | exact⟨trivial,trivial⟩
   | fin=>cases e <;> first | exact trivial | exact⟨trivial,trivial⟩
   | fail _=>cases e <;> first | exact trivial | exact⟨trivial,trivial⟩
 | x :: y :: r, e, c, h => by
   have d:e.a=true->ms (y::r)=F:=fun k=>by
    have:=h k;cases x <;> exact this
   cases x with
   | body a=>exact⟨by have:=c.1;cases y <;> exact this,uL (y::r) e c.2 d⟩
   | head _=>exact uL (y::r) e c d
   | fin=>exact uL (y::r) e c d
   | fail _=>exact uL (y::r) e c d
theorem OM {l:List aU}{e:aU}(a:eC l)(h:e.a=true->ms l=F):aE (l++[e])=l++[e]:=nW _ (uL l e a h)
theorem uM:∀(l:List aU) (a b:ab),eC (l++[.body a])->eC (l++[.body b])
 | [],_,_,h=>h
 | [.body x],_,_,h=>absurd h.1 (fun k=>k)
 | .body x::y::r,a,b,h=>⟨by have:=h.1;cases y <;> exact this,uM (y::r) a b h.2⟩
 | .head _::r,a,b,h=>uM r a b h
 | .fin::r,a,b,h=>uM r a b h
 | .fail _::r,a,b,h=>uM r a b h
theorem OL {l:List aU}{a b:ab}(h:eC (l++[.body a])):aE (l++[.body a]++[.body b])=l++[.body (a++b)]:=by
 rw[ja,<-uN];exact nW _ (uM l a (a++b) h)
theorem FY:∀(l:List aU) (e:aU),ms (l++[e])=e.a
 | [],e=>by cases e <;> rfl
 | x::[],e=>by cases x <;> cases e <;> rfl
 | x :: y :: r, e => by
   have:=FY (y::r) e;cases x <;> exact this
theorem Gn:∀(l:List aU),ms l=true->∃q a,l=q++[.body a]
 | [],h=>by cases h
 | [x], h => by
   cases x with
   | body a=>exact⟨[],a,rfl⟩
   | head _=>cases h
   | fin=>cases h
   | fail _=>cases h
 | x :: y :: r, h => by
   have:ms (y::r)=true:=by cases x <;> exact h
   obtain⟨q,a,e⟩:=Gn (y::r) this;exact⟨x::q,a,by rw[e];rfl⟩
theorem Gc (l a b:List aU):aE (aE (l++a)++b)=aE (l++(a++b)):=by rw[si,ja]
theorem OG (s:bL)(l:ab)(c:UInt8):cV s (l++[c])=cV s l++(cH (cL s l) c).2:=by grind [cV,cH,cL,Gl]
theorem OE (s:bL)(l:ab)(c:UInt8):cL s (l++[c])=(cH (cL s l) c).1:=by rw[A3];rfl
structure jo (h:df):Prop where
 d:h.e.length<=200
 b:h.b.length<=200
 e:h.d<=1
 a:h.a.length<=16
 c:∀f∈h.a,f.1.length<=200∧f.2.length<=200
structure fJ (s:bL):Prop where
 d:s.a<=4
 a:qx s.b
 b:s.b.a=0
 f:s.a=1->jo s.c∧s.c.c=0
 g:s.a=2->0<s.e∧s.e<=4000
 c:s.a=3->jW s.d∧s.d.a=0∧s.d.b≠4
def aU.e:aU->Prop
 | .head h=>jo h
 | _=>True
theorem fJ.y:fJ pJ:=⟨ax _,qx.a,rfl,(fun h=>by cases h),(fun h=>by cases h),(fun h=>by cases h)⟩
theorem O0:∀(t w:ab),(ng w t).length=t.count 32+1:=by intro l;induction l <;> grind [ng]
theorem AZ {c:UInt8}{t:ab}(h:aV c t<t.length):t=t.take (aV c t)++c::t.drop (aV c t+1):=by
 conv=>lhs;rw[<-iZ (aV c t) t,hJ h,Di h]
theorem xu {c:UInt8}{t:ab}:∀b∈t.take (aV c t),b≠c:=by
 intro b a;obtain⟨j,d,rfl⟩:=List.mem_iff_getElem.1 a;rw[bV] at d;rw[List.getElem_take];exact Dh (by omega) (by omega)
theorem Ge {c:UInt8}{t:ab}(h:0<t.count c):aV c t<t.length:=by grind [aV]
theorem F4 {c:UInt8}{t:ab}(h:aV c t<t.length):t.count c=(t.drop (aV c t+1)).count c+1:=by grind [aV,AZ,xu]
theorem F6 {t:ab}(h:t.count 32=2):aV 32 t<t.length∧aV 32 (t.drop (aV 32 t+1))<(t.drop (aV 32 t+1)).length ∧
 ng [] t=[t.take (aV 32 t),(t.drop (aV 32 t+1)).take (aV 32 (t.drop (aV 32 t+1))),(t.drop (aV 32 t+1)).drop (aV 32 (t.drop (aV 32 t+1))+1)]:=by
 have a:=Ge (c:=32) (t:=t) (by omega);have k:=F4 a;have d:=Ge (c:=32) (t:=t.drop (aV 32 t+1)) (by omega);have l:=F4 d;refine⟨a,d,?_⟩;have g:=AZ a;have f:=AZ d;have i:∀b∈(t.drop (aV 32 t+1)).drop (aV 32 (t.drop (aV 32 t+1))+1),b≠32:=fun b j e=>by
  have:=List.count_pos_iff.2 (e▸j);omega
 conv=>lhs;rw[g]
 rw[Ga _ [] _ xu,f,Ga _ [] _ xu,OZ _ [] i];simp only[lc];rw[<-f]
theorem Gf {t:ab}(h:t.count 32≠2):kR t=.inl 5:=by grind [kR,O0]
def A0 (m g v:ab):Nat ⊕ df :=
 if fi m=F then .inl 6
 else if g.head?≠some 47∨9∈g then .inl 5
 else if v=[72,84,84,80,47,49,46,49] then .inr ⟨m,g,1,[],0⟩
 else if v=[72,84,84,80,47,49,46,48] then .inr ⟨m,g,0,[],0⟩
 else .inl 11
theorem FZ {t:ab}(h:t.count 32=2):kR t=A0 (t.take (aV 32 t)) ((t.drop (aV 32 t+1)).take (aV 32 (t.drop (aV 32 t+1)))) ((t.drop (aV 32 t+1)).drop (aV 32 (t.drop (aV 32 t+1))+1)):=by
 unfold kR;rw[(F6 h).2.2];rfl
theorem ON {t:ab}{h:df}(g:t.length<=200)(e:kR t=.inr h):jo h∧h.c=0:=by
 by_cases b:t.count 32=2
 . rw[FZ b] at e;unfold A0 at e;have c:(t.take (aV 32 t)).length<=200:=by rw[bV];omega
   have d:((t.drop (aV 32 t+1)).take (aV 32 (t.drop (aV 32 t+1)))).length<=200:=by rw[bV,cQ];omega
   split at e
   . cases e
   . split at e
     . cases e
     . split at e
       . injection e with e;subst e;exact⟨⟨c,d,am _,ax _,fun f a=>by cases a⟩,rfl⟩
       . split at e
         . injection e with e;subst e;exact⟨⟨c,d,ax _,ax _,fun f a=>by cases a⟩,rfl⟩
         . cases e
 . rw[Gf b] at e;cases e
theorem Gg:∀(f:ab) (l:List (ab)) (n k:Int),0<=n->lB f n l=.inr k->0<=k
 | f,[],n,k,c,e=>by injection e with e;omega
 | f, v :: t, n, k, c, e => by
   rw[lB] at e;split at e
   . cases e
   . split at e
     . cases e
     . refine Gg f t _ k ?_ e;have:(bB 10 9 v).1=0∨(bB 10 9 v).1=lq 10 v∧v.all (gy 10)=true∧v.length<=9:=by
        by_cases b:v=[]∨(9:Int)<v.length
        . rw[yQ 10 9 v b];exact Or.inl rfl
        . cases a:v.all (gy 10)
          . rw[yI 10 9 v a];exact Or.inl rfl
          . rw[yS 10 9 v (fun e=>b (Or.inl e)) (fun e=>b (Or.inr e)) a];exact Or.inr ⟨rfl,rfl,by omega⟩
       rcases this with g | ⟨g,a,d⟩
       . omega
       . rw[g];exact(wi 10 (by omega) (by omega) v a d).1
theorem F7 {h:df}{k:Int}(e:mr h=.inr k):k=-1∨0<=k∧k<=4000:=by
 unfold mr at e;split at e
 . cases e
 . split at e
   . split at e
     . cases e
     . split at e
       . cases e
       . injection e with e;exact Or.inl e.symm
   . split at e
     . cases e
     . rename_i n a;split at e
       . cases e
       . injection e with e;subst e;exact Or.inr ⟨Gg _ _ 0 _ (by omega) a,by omega⟩
theorem fJ.e {s:bL}(h:fJ s):fJ (kQ s):=⟨am _,h.a,h.b,(fun e=>by cases e),(fun e=>by cases e),(fun e=>by cases e)⟩
theorem fJ.r {s:bL}(h:fJ s)(r:s.a=0∨s.a=1)(t:ab)(i:t.length<=200):fJ (ip s t).1∧∀e∈(ip s t).2,e.e:=by
 unfold ip;by_cases m:s.a=0
 . rw[if_pos m];by_cases g:t=[]
   . rw[if_pos g];exact⟨h,fun e a=>by cases a⟩
   . rw[if_neg g];cases d:kR t with
     | inl c=>exact⟨h.e,fun e a=>by simp at a;subst a;exact trivial⟩
     | inr u=>exact⟨⟨by show 1<=4;omega,h.a,h.b,fun _=>ON i d,(fun e=>by cases e),(fun e=>by cases e)⟩,fun e a=>by cases a⟩
 . rw[if_neg m];obtain⟨b,j⟩:=h.f (by omega);have l:∀k:Int,jo { s.c with c:=k }:=fun k=>⟨b.d,b.b,b.e,b.a,b.c⟩;by_cases g:t=[]
   . rw[if_pos g];cases p:mr s.c with
     | inl c=>exact⟨h.e,fun e a=>by simp at a;subst a;exact trivial⟩
     | inr k =>
       have v:=F7 p;simp only;by_cases n:k=0
       . rw[if_pos n];refine⟨⟨ax _,h.a,h.b,(fun e=>by cases e),(fun e=>by cases e),(fun e=>by cases e)⟩,fun e a=>?_⟩;simp at a;rcases a with rfl | rfl
         . exact l k
         . exact trivial
       . rw[if_neg n];by_cases o:0<k
         . rw[if_pos o];refine⟨⟨by show 2<=4;omega,h.a,h.b,(fun e=>by cases e),fun _=>⟨by show 0<k.toNat;omega,by show k.toNat<=4000;omega⟩,(fun e=>by cases e)⟩,fun e a=>?_⟩;simp at a;subst a;exact l k
         . rw[if_neg o];refine⟨⟨by show 3<=4;omega,h.a,h.b,(fun e=>by cases e),(fun e=>by cases e),fun _=>⟨jW.r,rfl,by show(0:Nat)≠4;omega⟩⟩,fun e a=>?_⟩;simp at a;subst a;exact l k
   . rw[if_neg g];split
     . exact⟨h.e,fun e a=>by simp at a;subst a;exact trivial⟩
     . rename_i q;split
       . exact⟨h.e,fun e a=>by simp at a;subst a;exact trivial⟩
       . have:=Df t;refine⟨⟨h.d,h.a,h.b,fun _=>⟨⟨b.d,b.b,b.e,?_,fun f d=>?_⟩,j⟩,h.g,h.c⟩,fun e a=>by cases a⟩
         . have:=b.a;show(s.c.a++[((aZ t).b,(aZ t).c)]).length<=16;rw[aD];simp;omega
         . rcases eJ.1 d with d | d
           . exact b.c f d
           . simp at d;subst d;exact⟨co this.1 i,co this.2 i⟩
theorem xw {s:ct}{c:UInt8}(h:qx s):(cT s c).length<=200∧∀b∈cT s c,ex b.toNat=true:=by
 unfold cT;split
 . exact⟨h.c,h.d⟩
 . exact⟨ax _,fun b a=>by cases a⟩
theorem fJ.q {s:bL}(h:fJ s)(c:UInt8):fJ (cH s c).1∧∀e∈(cH s c).2,e.e:=by
 have g:fJ { s with a:=0 }:=⟨ax _,h.a,h.b,(fun e=>by cases e),(fun e=>by cases e),(fun e=>by cases e)⟩;unfold cH;split
 . exact⟨h,fun e b=>by cases b⟩
 . split
   . rename_i d;obtain⟨l,m⟩:=h.g d;split
     . refine⟨⟨ax _,h.a,h.b,(fun e=>by cases e),(fun e=>by cases e),(fun e=>by cases e)⟩,fun e b=>?_⟩;simp at b;rcases b with rfl | rfl <;> exact trivial
     . refine⟨⟨h.d,h.a,h.b,h.f,fun _=>⟨by show 0<s.e-1;omega,by show s.e-1<=4000;omega⟩,h.c⟩,fun e b=>?_⟩;simp at b;subst b;exact trivial
   . split
     . rename_i f;obtain⟨i,n,o⟩:=h.c f;split
       . exact⟨h.e,fun e b=>by simp at b;subst b;exact trivial⟩
       . split
         . exact⟨g,fun e b=>by simp at b;subst b;exact trivial⟩
         . rename_i p j;refine⟨⟨h.d,h.a,h.b,h.f,h.g,fun _=>⟨i.q c,by show(dc s.d c).a=0;omega,j⟩⟩,fun e b=>?_⟩;unfold oQ at b;split at b
           . cases b
           . simp at b;subst b;exact trivial
     . rename_i q d f;have r:=h.d;split
       . exact⟨h.e,fun e b=>by simp at b;subst b;exact trivial⟩
       . split
         . have k:fJ { s with b:=dv }:=⟨h.d,qx.a,rfl,h.f,h.g,h.c⟩;exact k.r (by show s.a=0∨s.a=1;omega) _ (xw h.a).1
         . exact⟨⟨h.d,xg h.a,by rename_i a _;show(bj s.b c).a=0;omega,h.f,h.g,h.c⟩,fun e b=>by cases b⟩
theorem fJ.j:∀(l:ab) {s:bL},fJ s->fJ (cL s l)
 | [],_,h=>h
 | c::t,s,h=>fJ.j t (s:=(cH s c).1) (h.q c).1
theorem A4:∀(l:ab) {s:bL},fJ s->∀e∈cV s l,e.e
 | [],_,_=>fun e a=>by cases a
 | c :: t, s, h => fun e a => by
   rcases eJ.1 a with a | a
   . exact(h.q c).2 e a
   . exact A4 t (h.q c).1 e a
theorem uK:∀(l:List aU),(∀e∈l,e.e)->∀e∈aE l,e.e
 | [],_=>fun e d=>by cases d
 | .head h :: r, k => fun e d => by
   rw[aE] at d;rcases fS.1 d with rfl | d
   . exact k _ (lO ..)
   . exact uK r (fun x f=>k x (iN _ f)) e d
 | .fin :: r, k => fun e d => by
   rw[aE] at d;rcases fS.1 d with rfl | d
   . exact trivial
   . exact uK r (fun x f=>k x (iN _ f)) e d
 | .fail c :: r, k => fun e d => by
   rw[aE] at d;rcases fS.1 d with rfl | d
   . exact trivial
   . exact uK r (fun x f=>k x (iN _ f)) e d
 | .body a :: r, k => fun e d => by
   have g:=uK r (fun x f=>k x (iN _ f));rw[aE] at d;cases i:aE r with
   | nil=>rw[i] at d;simp at d;subst d;exact trivial
   | cons y q =>
     rw[i] at d g;cases y with
     | body b =>
       rcases fS.1 d with rfl | d
       . exact trivial
       . exact g e (iN _ d)
     | head h =>
       rcases fS.1 d with rfl | d
       . exact trivial
       . exact g e d
     | fin =>
       rcases fS.1 d with rfl | d
       . exact trivial
       . exact g e d
     | fail c =>
       rcases fS.1 d with rfl | d
       . exact trivial
       . exact g e d
def bP:List aU->Nat
 | []=>0
 | .body a::r=>a.length+bP r
 | _::r=>bP r
def ey (l:List aU):Prop:=∀a,aU.body a∈l->a≠[]
theorem qD:∀a b:List aU,bP (a++b)=bP a+bP b
 | [],b=>by simp[bP]
 | .body x::r,b=>by rw[ge,bP,bP,qD r b];omega
 | .head _::r,b=>qD r b
 | .fin::r,b=>qD r b
 | .fail _::r,b=>qD r b
theorem sj:∀l:List aU,bP (aE l)=bP l
 | []=>rfl
 | .head _::r=>by rw[aE];exact sj r
 | .fin::r=>by rw[aE];exact sj r
 | .fail _::r=>by rw[aE];exact sj r
 | .body a :: r => by
   have c:=sj r;rw[aE];cases d:aE r with
   | nil=>rw[d] at c;simp only[bP] at c ⊢;omega
   | cons e q =>
     rw[d] at c;cases e with
     | body b=>simp only[bP,aD] at c ⊢;omega
     | head _=>simp only[bP] at c ⊢;omega
     | fin=>simp only[bP] at c ⊢;omega
     | fail _=>simp only[bP] at c ⊢;omega
theorem sf:∀l:List aU,(aE l).length<=l.length
 | []=>am _
 | .head _::r=>by rw[aE,bF,bF];have:=sf r;omega
 | .fin::r=>by rw[aE,bF,bF];have:=sf r;omega
 | .fail _::r=>by rw[aE,bF,bF];have:=sf r;omega
 | .body a :: r => by
   have b:=sf r;rw[aE];cases c:aE r with
   | nil=>rw[c] at b;simp only[bF,iy] at b ⊢;omega
   | cons e q =>
     rw[c] at b;cases e <;> simp only[bF] at b ⊢ <;> omega
theorem sm:∀l:List aU,ey l->ey (aE l)
 | [],h=>h
 | .head _ :: r, h => by
   have d:=sm r (fun a ha=>h a (iN _ ha));rw[aE];intro a ha;rcases fS.1 ha with ha | ha
   . cases ha
   . exact d a ha
 | .fin :: r, h => by
   have d:=sm r (fun a ha=>h a (iN _ ha));rw[aE];intro a ha;rcases fS.1 ha with ha | ha
   . cases ha
   . exact d a ha
 | .fail _ :: r, h => by
   have d:=sm r (fun a ha=>h a (iN _ ha));rw[aE];intro a ha;rcases fS.1 ha with ha | ha
   . cases ha
   . exact d a ha
 | .body x :: r, h => by
   have d:=sm r (fun a ha=>h a (iN _ ha));have f:x≠[]:=h x (lO ..);rw[aE];cases g:aE r with
   | nil =>
     intro a ha;simp at ha;subst ha;exact f
   | cons e q =>
     rw[g] at d;have c:∀a,aU.body a∈aU.body x::e::q->a≠[]:=fun a ha=>by
      rcases fS.1 ha with ha | ha
      . injection ha with ha;subst ha;exact f
      . exact d a ha
     cases e with
     | body b =>
       intro a ha;rcases fS.1 ha with ha | ha
       . injection ha with ha;subst ha;simp[f]
       . exact d a (iN _ ha)
     | head _=>exact c
     | fin=>exact c
     | fail _=>exact c
theorem F2 {a b:List aU}(h:ey a)(k:ey b):ey (a++b):=by grind [ey]
theorem OX (s:bL)(t:ab):(ip s t).2.length<=2∧bP (ip s t).2=0∧ey (ip s t).2:=by grind [ip,bP,ey]
theorem OY (s:bL)(c:UInt8):(cH s c).2.length<=2∧bP (cH s c).2<=1∧ey (cH s c).2:=by
 have e:∀c,([aU.fail c]:List aU).length<=2∧bP [aU.fail c]<=1∧ey [aU.fail c]:=fun c=>⟨by simp,ax _,fun a ha=>by simp at ha⟩;have b:([]:List aU).length<=2∧bP []<=1∧ey []:=⟨by simp,ax _,fun a ha=>by cases ha⟩;unfold cH;split
 . exact b
 . split
   . split
     . exact⟨by simp,by simp[bP],fun a ha=>by simp at ha;subst ha;simp⟩
     . exact⟨by simp,by simp[bP],fun a ha=>by simp at ha;subst ha;simp⟩
   . split
     . split
       . exact e _
       . split
         . exact⟨by simp,ax _,fun a ha=>by simp at ha⟩
         . have:=IL s.d c;unfold oQ;split
           . exact b
           . rename_i d;exact⟨by simp,by simp only[bP];omega,fun a ha=>by simp at ha;subst ha;exact d⟩
     . split
       . exact e _
       . split
         . have:=OX { s with b:=dv } (cT s.b c);exact⟨this.1,by omega,this.2.2⟩
         . exact b
theorem xv:∀(l:ab) (s:bL),(cV s l).length<=2*l.length∧bP (cV s l)<=l.length∧ey (cV s l)
 | [],s=>⟨by simp[cV],by simp[cV,bP],fun a ha=>by cases ha⟩
 | c :: t, s => by
   have b:=OY s c;have d:=xv t (cH s c).1;rw[cV,aD,qD,bF];exact⟨by omega,by omega,F2 b.2.2 d.2.2⟩
theorem Gh (s:bL)(l:ab):(aE (cV s l)).length<=2*l.length∧bP (aE (cV s l))<=l.length∧ey (aE (cV s l))∧eC (aE (cV s l)):=by grind [aE,cV,bP,ey,eC,xv,sf,sj,sm,qC]
def xr:ab:=[67,111,110,116,101,110,116,45,76,101,110,103,116,104]
theorem FR {n:Nat}(h:n<1000000000):(bO xr (bw 8 n)).2=0∧(bO xr (bw 8 n)).1=xt++bw 8 n:=by
 have c:=Gb 8 n h;have f:=gz 8 n;have d:xr.length=14:=rfl;unfold bO;rw[if_neg (by decide),if_neg (by rw[d];omega),if_neg]
 . exact⟨rfl,rfl⟩
 . rintro (e | e)
   . have:dP (bw 8 n)=true:=sI.2 fun b a=>(c b a).1;rw[this] at e;cases e
   . exact e (Cf fun b a=>(c b a).2)
theorem F0:∀(b:List gA) (s:ab),iq b=.inr s->s.length<=202*b.length
 | [],s,h=>by injection h with h;subst h;exact ax _
 | f :: r, s, h => by
   rw[iq] at h;split at h
   . cases h
   . rename_i d;have d:(bO f.1 f.2).2=0:=by omega
     cases a:iq r with
     | inl c=>rw[a] at h;cases h
     | inr t =>
       rw[a] at h;injection h with h;subst h;have e:=F0 r t a;have g:(bO f.1 f.2).1.length<=200:=by have i:=Dd f.1 f.2;have j:=(Jv d).2;omega
       simp only[aD,bF];omega
theorem OU (h:df)(a:ab)(b:(jp h a).2=0):0<(jp h a).1.length∧(jp h a).1.length<=8000:=by
 unfold jp at b ⊢;by_cases k:fi h.e=F
 . rw[if_pos k] at b;cases b
 rw[if_neg k] at b ⊢;by_cases l:h.b.head?≠some 47∨32∈h.b∨9∈h.b∨dP h.b=F
 . rw[if_pos l] at b;cases b
 rw[if_neg l] at b ⊢;by_cases m:200<h.e.length+h.b.length+10∨4000<a.length
 . rw[if_pos m] at b;cases b
 rw[if_neg m] at b ⊢;by_cases n:16<=h.a.length
 . rw[if_pos n] at b;cases b
 rw[if_neg n] at b ⊢;by_cases o:ef h.a pG≠[]∨ef h.a pH≠[]
 . rw[if_pos o] at b;cases b
 rw[if_neg o] at b ⊢;by_cases p:(ef h.a qE).length≠1
 . rw[if_pos p] at b;cases b
 rw[if_neg p] at b ⊢;cases f:iq h.a with
 | inl c =>
   rw[f] at b;exfalso;have g:∀i c,iq i=.inl c->c≠0:=by
    intro i;induction i with
    | nil=>intro c e;cases e
    | cons x r q =>
      intro c e;rw[iq] at e;split at e
      . rename_i t;injection e with e;subst e;exact t
      . cases j:iq r with
        | inl d=>rw[j] at e;injection e with e;subst e;exact q d j
        | inr d=>rw[j] at e;cases e
   exact g _ c f b
 | inr s =>
   have w:=F0 h.a s f;have y:=(gz 8 a.length).1;have u:xx.length=8:=rfl;have v:mq.length=14:=rfl;simp only[aD,bF,iy,u,v];omega
