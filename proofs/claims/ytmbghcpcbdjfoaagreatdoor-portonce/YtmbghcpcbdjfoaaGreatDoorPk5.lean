import Derived.Test.YtmbghcpcbdjfoaaGreatDoorPlainRA
open Option renaming some->M
open Bool renaming false->F
open Or renaming inr->R
namespace Go.Proofs.YtmbghcpcbdjfoaaGreatDoor
def BA:List aS->Prop
 | .body _::_=>False
 | _=>True
theorem PA {a:ae}{r:List aS}(h:BA (aH r)):aH (.body a::r)=.body a::aH r:=by grind [BA,aH]
theorem PB {a b:ae}{r:List aS}:aH (.body a::.body b::r)=aH (.body (a++b)::r):=by grind [aH]
theorem BO:∀(l:ae) (s:bR),s.a=4->dc s l=[]∧cP s l=s
 | [],s,_=>⟨rfl,rfl⟩
 | c :: t, s, h => by
   have e:cK s c=(s,[]):=by unfold cK;rw[if_pos h]
   have a:=BO t s h;constructor
   . show(cK s c).2++dc (cK s c).1 t=[];rw[e];exact a.1
   . show cP (cK s c).1 t=s;rw[e];exact a.2
theorem Po {t:ae}{h:cf}(e:dw t=.inr h):h.a=[]:=by grind [dw]
def eZ:List aS->Prop
 | []=>True
 | .body _::r=>BA r∧eZ r
 | _::r=>eZ r
theorem rg:∀l:List aS,eZ (aH l)
 | []=>trivial
 | .head h::r=>by rw[aH];exact rg r
 | .fin::r=>by rw[aH];exact rg r
 | .fail c::r=>by rw[aH];exact rg r
 | .body a :: r => by
   have d:=rg r;rw[aH];cases f:aH r with
   | nil=>exact⟨trivial,trivial⟩
   | cons e q =>
     rw[f] at d;cases e with
     | body b=>exact d
     | head h=>exact⟨trivial,d⟩
     | fin=>exact⟨trivial,d⟩
     | fail c=>exact⟨trivial,d⟩
theorem ol:∀l:List aS,eZ l->aH l=l
 | [],_=>rfl
 | .head h::r,k=>by rw[aH,ol r k]
 | .fin::r,k=>by rw[aH,ol r k]
 | .fail c::r,k=>by rw[aH,ol r k]
 | .body a :: r, k => by
   have e:=ol r k.2;rw[PA (by rw[e];exact k.1),e]
theorem PZ (l:List aS):aH (aH l)=aH l:=ol _ (rg l)
theorem vQ:∀(a b:List aS),aH (a++aH b)=aH (a++b)
 | [],b=>PZ b
 | .head h::r,b=>by rw[gV,gV,aH,aH,vQ r b]
 | .fin::r,b=>by rw[gV,gV,aH,aH,vQ r b]
 | .fail c::r,b=>by rw[gV,gV,aH,aH,vQ r b]
 | .body x::r,b=>by rw[gV,gV,aH,aH,vQ r b]
theorem PY (x:ae)(l r:List aS)(h:aH l=aH r):aH (.body x::l)=aH (.body x::r):=by rw[aH,aH,h]
theorem sY:∀(a b:List aS),aH (aH a++b)=aH (a++b)
 | [],b=>rfl
 | .head h::r,b=>by rw[aH,gV,gV,aH,aH,sY r b]
 | .fin::r,b=>by rw[aH,gV,gV,aH,aH,sY r b]
 | .fail c::r,b=>by rw[aH,gV,gV,aH,aH,sY r b]
 | .body x :: r, b => by
   have d:=sY r b;have f:=PY x _ _ d;rw[gV,<-f];have g:aH (.body x::r)=match aH r with | .body y::q=>.body (x++y)::q | q=>.body x::q:=by
    rw[aH];cases aH r with
    | nil=>rfl
    | cons e q=>cases e <;> rfl
   rw[g];cases aH r with
   | nil=>rfl
   | cons e q => cases e with
     | body y =>
       show aH (.body (x++y)::(q++b))=aH (.body x::.body y::(q++b))
       rw[PB]
     | head h=>rfl
     | fin=>rfl
     | fail c=>rfl
def er:List dR->Nat ⊕ ae
 | []=>.inr []
 | f :: r => if (bz f.1 f.2).2 ≠ 0 then .inl (bz f.1 f.2).2 else match er r with
   | .inl c=>.inl c
   | .inr s=>.inr ((bz f.1 f.2).1++13::10::s)
def ew:ae:=[67,111,110,116,101,110,116,45,76,101,110,103,116,104]
def jO:ae:=[72,84,84,80,47,49,46,49]
def ic (h:cf)(body:ae):ae×Nat :=
 if cT h.c=F then ([],6)
 else if h.b.head?≠M 47∨32∈h.b∨9∈h.b∨cF h.b=F then ([],5)
 else if 200<h.c.length+h.b.length+10∨4000<body.length then ([],4)
 else if 16<=h.a.length then ([],8)
 else if bU h.a le≠[]∨bU h.a lg≠[] then ([],12)
 else if (bU h.a mJ).length≠1 then ([],13)
 else match er h.a with
  | .inl c=>([],c)
  | .inr s=>(h.c++32::(h.b++32::(jO++13::10::(s++(ew++[58,32]++ba 8 body.length++13::10::13::10::body)))),0)
def vJ (h:cf)(body:ae):cf:={ h with e:=1,a:=h.a++[(ew,ba 8 body.length)],d:=(body.length:Int) }
theorem GM:∀(m w:ae),(∀b∈m,b≠32)->gB w m=[w++m]:=by intro l;induction l <;> grind [gB]
theorem yc:∀(m w t:ae),(∀b∈m,b≠32)->gB w (m++32::t)=(w++m)::gB [] t:=by intro l;induction l <;> grind [gB]
theorem Pu (b:UInt8)(h:fI b.toNat=true):cG b.toNat=true∧b≠32:=by
 have a:=b.toNat_lt;have:=(show ∀n:Fin 256,fI ((n.val.toUInt8).toNat:Int)=true->cG ((n.val.toUInt8).toNat:Int)=true∧n.val.toUInt8≠32 by decide +kernel) ⟨b.toNat,a⟩;have e:b.toNat.toUInt8=b:=by simp
 simp only[e] at this;exact this h
theorem BP {m:ae}(h:cT m=true):m≠[]∧∀b∈m,cG b.toNat=true∧b≠32:=by grind [cT,cG,Pu]
theorem GG {m:ae}(h:cF m=true):∀b∈m,cG b.toNat=true:=fun b a=>pm.1 h b a
theorem PJ {m g:ae}(d:cT m=true)(f:g.head? = M 47)(a:32∉g)(i:9∉g):dw (m++32::(g++32::jO))=.inr ⟨m,g,1,[],0⟩:=by
 unfold dw;rw[yc m [] _ (fun b c=>((BP d).2 b c).2),yc g [] _ (fun b c e=>a (e▸c)),GM jO [] (by decide)];simp only[jo];rw[if_neg (by rw[d];simp),if_neg (by rw[f];simp[i]),if_pos (show jO=[72,84,84,80,47,49,46,49] from rfl)]
theorem Gy {n v:ae}(h:(bz n v).2=0)(r:ae):aw ((bz n v).1++13::10::r)=⟨(bz n v).1,(bz n v).1.length+2,true,0⟩∧(bz n v).1≠[]∧aP (bz n v).1=⟨n,v,0⟩:=by
 obtain⟨c,f⟩:=DA h;have e:=JE c f;rw[e];simp only;have g:=JG c;refine⟨zF _ r (fun b a=>?_) (by simp;omega),by simp,g⟩;unfold bz at h;have d:cT n=true:=by
  cases i:cT n
  . rw[if_pos i] at h;cases h
  . rfl
 rw[if_neg (by rw[d];simp)] at h;have j:cF v=true:=by
  split at h
  . cases h
  . split at h
    . cases h
    . rename_i k;cases l:cF v
      . exact absurd (Or.inl l) k
      . rfl
 simp only[dm,fr,List.not_mem_nil,or_false] at a;rcases a with (a | rfl | rfl) | a
 . exact((BP d).2 b a).1
 . decide
 . decide
 . exact GG j b a
theorem Gz:∀(b a:List dR) (f:Nat) (rest s:ae),er b=.inr s->a.length+b.length<=16->fY (f+b.length) (s++rest) a=fY f rest (a++b)
 | [], a, f, rest, s, h, _ => by
   injection h with h;subst h;simp
 | x :: b, a, f, rest, s, h, hl => by
   rw[er] at h;by_cases g:(bz x.1 x.2).2=0
   . rw[if_neg (fun e=>e g)] at h;cases i:er b with
     | inl c=>rw[i] at h;cases h
     | inr d =>
       rw[i] at h;injection h with h;subst h;simp only[bO] at hl;obtain⟨j,k,l⟩:=Gy g (d++rest);have e:(bz x.1 x.2).1++13::10::d++rest=(bz x.1 x.2).1++13::10::(d++rest):=by simp
       rw[e,bO,<-fC,fY,j];simp only;rw[if_neg (by simp),if_neg (by simp),if_neg k,if_neg (by omega),l];simp only;rw[if_neg (by simp)];have m:List.drop ((bz x.1 x.2).1.length+2) ((bz x.1 x.2).1++13::10::(d++rest))=d++rest:=by
        rw[<-oD,List.drop_left];rfl
       rw[m,Gz b (a++[(x.1,x.2)]) f rest d i (by simp;omega)];simp
   . rw[if_pos g] at h;cases h
theorem BB:∀(f n:Nat),n<10 ^ (f+1)->∀b∈ba f n,cG b.toNat=true∧aX.contains b=F:=by
 have c:∀j,j<10->∀b∈ba 0 j,cG b.toNat=true∧aX.contains b=F:=fun j d=>(show ∀j:Fin 10,∀b∈ba 0 j.val,cG b.toNat=true∧aX.contains b=F by decide +kernel) ⟨j,d⟩;intro f;induction f with
 | zero=>intro n h b a;exact c n (by simpa using h) b a
 | succ f e =>
   intro n h b a;unfold ba at a;split at a
   . rename_i g;exact c n g b a
   . rw[dm] at a;rcases a with a | a
     . exact e (n / 10) (by rw[Nat.pow_succ] at h;omega) b a
     . exact c (n % 10) (by omega) b a
theorem Gq (n:Nat)(h:n<=4000):(bz ew (ba 8 n)).2=0∧(bz ew (ba 8 n)).1=ew++[58,32]++ba 8 n:=by
 have c:=BB 8 n (by omega);have f:=jq 8 n;have d:ew.length=14:=rfl;unfold bz;rw[if_neg (by decide),if_neg (by rw[d];omega),if_neg]
 . exact⟨rfl,rfl⟩
 . rintro (e | e)
   . have:cF (ba 8 n)=true:=pm.2 fun b a=>(c b a).1;rw[this] at e;cases e
   . exact e (C6 fun b a=>(c b a).2)
theorem Pr (a b:List dR)(n:ae):bU (a++b) n=bU a n++bU b n:=by simp[bU]
theorem PR (h:cf)(a rest:ae)(f:Nat)(g:(ic h a).2=0)(i:(ic h a).1.length+rest.length<f+1):
 fO (f+1) ((ic h a).1++rest)=(.head (vJ h a)::eu a++.fin::(fO f rest).1,(fO f rest).2):=by
 unfold ic at g i ⊢;by_cases q:cT h.c=F
 . rw[if_pos q] at g;cases g
 rw[if_neg q] at g i ⊢;by_cases m:h.b.head?≠M 47∨32∈h.b∨9∈h.b∨cF h.b=F
 . rw[if_pos m] at g;cases g
 rw[if_neg m] at g i ⊢;by_cases T:200<h.c.length+h.b.length+10∨4000<a.length
 . rw[if_pos T] at g;cases g
 rw[if_neg T] at g i ⊢;by_cases W:16<=h.a.length
 . rw[if_pos W] at g;cases g
 rw[if_neg W] at g i ⊢;by_cases o:bU h.a le≠[]∨bU h.a lg≠[]
 . rw[if_pos o] at g;cases g
 rw[if_neg o] at g i ⊢;by_cases h6:(bU h.a mJ).length≠1
 . rw[if_pos h6] at g;cases g
 rw[if_neg h6] at g i ⊢;cases p:er h.a with
 | inl c => 
   rw[p] at g;exfalso;have t:∀u c,er u=.inl c->c≠0:=by
    intro u;induction u with
    | nil=>intro c e;cases e
    | cons x r ih =>
      intro c e;rw[er] at e;split at e
      . rename_i hx;injection e with e;subst e;exact hx
      . cases v:er r with
        | inl d=>rw[v] at e;injection e with e;subst e;exact ih d v
        | inr d=>rw[v] at e;cases e
   exact t _ c p g
 | inr s =>
   rw[p] at i;simp only at i ⊢;have hm:cT h.c=true:=by
    cases e:cT h.c
    . exact absurd e q
    . rfl
   have w:h.b.head? = M 47:=by
    rcases Decidable.em (h.b.head? = M 47) with e | e
    . exact e
    . exact absurd (Or.inl e) m
   have y:32∉h.b:=fun e=>m (R (Or.inl e));have z:9∉h.b:=fun e=>m (R (R (Or.inl e)));have B:cF h.b=true:=by
    cases e:cF h.b
    . exact absurd (R (R (R e))) m
    . rfl
   have ha:a.length<=4000:=by omega
   obtain⟨c1,c2⟩:=Gq a.length ha;have e0:h.c++32::(h.b++32::(jO++13::10::(s++(ew++[58,32]++ba 8 a.length++13::10::13::10::a))))++rest=(h.c++32::(h.b++32::jO))++13::10::(s++((ew++[58,32]++ba 8 a.length)++13::10::(13::10::(a++rest)))):=by simp
   have hlen:(h.c++32::(h.b++32::jO)).length=h.c.length+h.b.length+10:=by
    simp[jO];omega
   have C:=zF (h.c++32::(h.b++32::jO)) (s++((ew++[58,32]++ba 8 a.length)++13::10::(13::10::(a++rest)))) (fun b j=>by
    rw[dm,fr,dm,fr] at j;rcases j with j | rfl | j | rfl | j
    . exact((BP hm).2 b j).1
    . decide
    . exact GG B b j
    . decide
    . exact(show ∀b∈jO,cG b.toNat=true by decide) b j) (by omega)
   have D:h.c++32::(h.b++32::jO)≠[]:=by simp
   have l:List.drop ((h.c++32::(h.b++32::jO)).length+2) ((h.c++32::(h.b++32::jO))++13::10::(s++((ew++[58,32]++ba 8 a.length)++13::10::(13::10::(a++rest)))))=s++((ew++[58,32]++ba 8 a.length)++13::10::(13::10::(a++rest))):=by
    rw[<-oD,List.drop_left];rfl
   have htot:h.a.length+2<=f:=by
    have hk:h.a.length<=15:=by omega
    have:(ew++[58,32]++ba 8 a.length++13::10::13::10::a).length≥20:=by simp[ew];omega
    simp only[aF,bO] at i this;omega
   have G:fY (f+1) (s++((ew++[58,32]++ba 8 a.length)++13::10::(13::10::(a++rest)))) []=.ok (h.a++[(ew,ba 8 a.length)]) (a++rest):=by
    obtain⟨k,hk⟩:∃k,f+1=(k+2)+h.a.length:=⟨f-1-h.a.length,by omega⟩;rw[hk,Gz h.a [] (k+2) _ s p (by simp;omega),<-c2];obtain⟨g1,g2,g3⟩:=Gy c1 (13::10::(a++rest));rw[fY,g1];simp only;rw[if_neg (by simp),if_neg (by simp),if_neg g2,if_neg (by simp;omega),g3];simp only;rw[if_neg (by simp)];have H:List.drop ((bz ew (ba 8 a.length)).1.length+2) ((bz ew (ba 8 a.length)).1++13::10::(13::10::(a++rest)))=13::10::(a++rest):=by
     rw[<-oD,List.drop_left];rfl
    have L:aw (13::10::(a++rest))=⟨[],2,true,0⟩:=zF [] (a++rest) (by simp) (by simp);rw[H,fY,L];simp
   have n:bU h.a le=[]∧bU h.a lg=[]:=by
    constructor
    . rcases Decidable.em (bU h.a le=[]) with e | e
      . exact e
      . exact absurd (Or.inl e) o
    . rcases Decidable.em (bU h.a lg=[]) with e | e
      . exact e
      . exact absurd (R e) o
   have w1:bU [(ew,ba 8 a.length)] mJ=[]:=by
    have k:(aU ew==mJ)=F:=by decide
    simp only[bU,List.filter,k,List.map]
   have w2:bU [(ew,ba 8 a.length)] lg=[]:=by
    have k:(aU ew==lg)=F:=by decide
    simp only[bU,List.filter,k,List.map]
   have w3:bU [(ew,ba 8 a.length)] le=[ba 8 a.length]:=by
    have k:(aU ew==le)=true:=by decide
    simp only[bU,List.filter,k,List.map]
   have N:gC ⟨h.c,h.b,1,h.a++[(ew,ba 8 a.length)],0⟩=.inr (a.length:Int):=by
    unfold gC;simp only[Pr,w1,w2,w3,n.1,n.2,eN,jo];have S:(bU h.a mJ).length=1:=by omega
    rw[if_neg (by rw[S];simp),if_neg (by simp)];simp only[List.headD_cons];rw[gm,I8 a.length (by omega),if_neg (by simp),if_neg (by simp),gm];simp only;rw[if_neg (by omega)]
   rw[e0,fO,C];simp only;rw[if_neg (by simp),if_neg (by simp),if_neg D,PJ hm w y z,l];simp only;rw[G];simp only;rw[N];simp only;rw[if_pos (by omega),if_pos (by simp),Int.toNat_natCast,List.drop_left,List.take_left];rfl
def mL:List aS->Bool
 | []=>F
 | [.body _]=>true
 | _::r=>mL r
def aS.a:aS->Bool
 | .body _=>true
 | _=>F
theorem vM:∀(l:List aS) (e:aS),eZ l->(e.a=true->mL l=F)->eZ (l++[e])
 | [],e,_,_=>by cases e <;> first | exact trivial | exact⟨trivial,trivial⟩
 | [x], e, c, h => by
   cases x with
   | body a =>
     cases e with
     | body b=>exact absurd (h rfl) (by simp[mL])
     | head _=>exact⟨trivial,trivial⟩
     | fin=>exact⟨trivial,trivial⟩
     | fail _=>exact⟨trivial,trivial⟩
   | head _=>cases e <;> first | exact trivial | exact⟨trivial,trivial⟩
   | fin=>cases e <;> first | exact trivial | exact⟨trivial,trivial⟩
   | fail _=>cases e <;> first | exact trivial | exact⟨trivial,trivial⟩
 | x :: y :: r, e, c, h => by
   have d:e.a=true->mL (y::r)=F:=fun k=>by
    have:=h k;cases x <;> exact this
   cases x with
   | body a=>exact⟨by have:=c.1;cases y <;> exact this,vM (y::r) e c.2 d⟩
   | head _=>exact vM (y::r) e c d
   | fin=>exact vM (y::r) e c d
   | fail _=>exact vM (y::r) e c d
theorem Pv {l:List aS}{e:aS}(a:eZ l)(h:e.a=true->mL l=F):aH (l++[e])=l++[e]:=ol _ (vM l e a h)
theorem vO:∀(l:List aS) (a b:ae),eZ (l++[.body a])->eZ (l++[.body b])
 | [],_,_,h=>h
 | [.body x],_,_,h=>absurd h.1 (fun k=>k)
 | .body x::y::r,a,b,h=>⟨by have:=h.1;cases y <;> exact this,vO (y::r) a b h.2⟩
 | .head _::r,a,b,h=>vO r a b h
 | .fin::r,a,b,h=>vO r a b h
 | .fail _::r,a,b,h=>vO r a b h
theorem Ps {l:List aS}{a b:ae}(h:eZ (l++[.body a])):aH (l++[.body a]++[.body b])=l++[.body (a++b)]:=by
 rw[iX,<-vQ];exact ol _ (vO l a (a++b) h)
theorem Gs:∀(l:List aS) (e:aS),mL (l++[e])=e.a
 | [],e=>by cases e <;> rfl
 | x::[],e=>by cases x <;> cases e <;> rfl
 | x :: y :: r, e => by
   have:=Gs (y::r) e;cases x <;> exact this
theorem Gr:∀(l:List aS),mL l=true->∃q a,l=q++[.body a]
 | [],h=>by cases h
 | [x], h => by
   cases x with
   | body a=>exact⟨[],a,rfl⟩
   | head _=>cases h
   | fin=>cases h
   | fail _=>cases h
 | x :: y :: r, h => by
   have:mL (y::r)=true:=by cases x <;> exact h
   obtain⟨q,a,e⟩:=Gr (y::r) this;exact⟨x::q,a,by rw[e];rfl⟩
theorem GH (l a b:List aS):aH (aH (l++a)++b)=aH (l++(a++b)):=by rw[sY,iX]
theorem Pn (s:bR)(l:ae)(c:UInt8):dc s (l++[c])=dc s l++(cK (cP s l) c).2:=by grind [dc,cK,cP,GQ]
theorem Pm (s:bR)(l:ae)(c:UInt8):cP s (l++[c])=(cK (cP s l) c).1:=by rw[BH];rfl
structure iD (h:cf):Prop where
 d:h.c.length<=200
 c:h.b.length<=200
 e:h.e<=1
 a:h.a.length<=16
 b:∀f∈h.a,f.1.length<=200∧f.2.length<=200
structure fX (s:bR):Prop where
 d:s.a<=4
 a:qX s.b
 b:s.b.a=0
 f:s.a=1->iD s.c∧s.c.d=0
 g:s.a=2->0<s.e∧s.e<=4000
 c:s.a=3->kb s.d∧s.d.a=0∧s.d.b≠4
def aS.e:aS->Prop
 | .head h=>iD h
 | _=>True
theorem fX.y:fX qb:=⟨ax _,qX.a,rfl,(fun h=>by cases h),(fun h=>by cases h),(fun h=>by cases h)⟩
theorem PS:∀(t w:ae),(gB w t).length=t.count 32+1:=by intro l;induction l <;> grind [gB]
theorem BC {c:UInt8}{t:ae}(h:bg c t<t.length):t=t.take (bg c t)++c::t.drop (bg c t+1):=by
 conv=>lhs;rw[<-jn (bg c t) t,gS h,zR h]
theorem yd {c:UInt8}{t:ae}:∀b∈t.take (bg c t),b≠c:=by
 intro b a;obtain⟨j,d,rfl⟩:=List.mem_iff_getElem.1 a;rw[bP] at d;rw[List.getElem_take];exact zQ (by omega) (by omega)
theorem GI {c:UInt8}{t:ae}(h:0<t.count c):bg c t<t.length:=by grind [bg]
theorem GA {c:UInt8}{t:ae}(h:bg c t<t.length):t.count c=(t.drop (bg c t+1)).count c+1:=by grind [bg,BC,yd]
theorem GD {t:ae}(h:t.count 32=2):bg 32 t<t.length∧bg 32 (t.drop (bg 32 t+1))<(t.drop (bg 32 t+1)).length ∧
 gB [] t=[t.take (bg 32 t),(t.drop (bg 32 t+1)).take (bg 32 (t.drop (bg 32 t+1))),(t.drop (bg 32 t+1)).drop (bg 32 (t.drop (bg 32 t+1))+1)]:=by
 have a:=GI (c:=32) (t:=t) (by omega);have k:=GA a;have d:=GI (c:=32) (t:=t.drop (bg 32 t+1)) (by omega);have l:=GA d;refine⟨a,d,?_⟩;have g:=BC a;have f:=BC d;have i:∀b∈(t.drop (bg 32 t+1)).drop (bg 32 (t.drop (bg 32 t+1))+1),b≠32:=fun b j e=>by
  have:=List.count_pos_iff.2 (e▸j);omega
 conv=>lhs;rw[g]
 rw[yc _ [] _ yd,f,yc _ [] _ yd,GM _ [] i];simp only[jo];rw[<-f]
theorem GJ {t:ae}(h:t.count 32≠2):dw t=.inl 5:=by grind [dw,PS]
def BF (m g v:ae):Nat ⊕ cf :=
 if cT m=F then .inl 6
 else if g.head?≠M 47∨9∈g then .inl 5
 else if v=[72,84,84,80,47,49,46,49] then .inr ⟨m,g,1,[],0⟩
 else if v=[72,84,84,80,47,49,46,48] then .inr ⟨m,g,0,[],0⟩
 else .inl 11
theorem Gt {t:ae}(h:t.count 32=2):dw t=BF (t.take (bg 32 t)) ((t.drop (bg 32 t+1)).take (bg 32 (t.drop (bg 32 t+1)))) ((t.drop (bg 32 t+1)).drop (bg 32 (t.drop (bg 32 t+1))+1)):=by
 unfold dw;rw[(GD h).2.2];rfl
theorem GB {t:ae}{h:cf}(g:t.length<=200)(e:dw t=.inr h):iD h∧h.d=0:=by
 by_cases b:t.count 32=2
 . rw[Gt b] at e;unfold BF at e;have c:(t.take (bg 32 t)).length<=200:=by rw[bP];omega
   have d:((t.drop (bg 32 t+1)).take (bg 32 (t.drop (bg 32 t+1)))).length<=200:=by rw[bP,bV];omega
   split at e
   . cases e
   . split at e
     . cases e
     . split at e
       . injection e with e;subst e;exact⟨⟨c,d,ak _,ax _,fun f a=>by cases a⟩,rfl⟩
       . split at e
         . injection e with e;subst e;exact⟨⟨c,d,ax _,ax _,fun f a=>by cases a⟩,rfl⟩
         . cases e
 . rw[GJ b] at e;cases e
theorem GL:∀(f:ae) (l:List (ae)) (n k:Int),0<=n->gm f n l=.inr k->0<=k
 | f,[],n,k,c,e=>by injection e with e;omega
 | f, v :: t, n, k, c, e => by
   rw[gm] at e;split at e
   . cases e
   . split at e
     . cases e
     . refine GL f t _ k ?_ e;have:(bB 10 9 v).1=0∨(bB 10 9 v).1=iP 10 v∧v.all (ee 10)=true∧v.length<=9:=by
        by_cases b:v=[]∨(9:Int)<v.length
        . rw[uD 10 9 v b];exact Or.inl rfl
        . cases a:v.all (ee 10)
          . rw[xi 10 9 v a];exact Or.inl rfl
          . rw[uE 10 9 v (fun e=>b (Or.inl e)) (fun e=>b (R e)) a];exact R ⟨rfl,rfl,by omega⟩
       rcases this with g | ⟨g,a,d⟩
       . omega
       . rw[g];exact(sj 10 (by omega) (by omega) v a d).1
theorem yf {h:cf}{k:Int}(e:gC h=.inr k):k=-1∨0<=k∧k<=4000:=by
 unfold gC at e;split at e
 . cases e
 . split at e
   . split at e
     . cases e
     . split at e
       . cases e
       . injection e with e;exact Or.inl e.symm
   . split at e
     . cases e
     . rename_i n a;split at e
       . cases e
       . injection e with e;subst e;exact R ⟨GL _ _ 0 _ (by omega) a,by omega⟩
theorem fX.e {s:bR}(h:fX s):fX (ld s):=⟨ak _,h.a,h.b,(fun e=>by cases e),(fun e=>by cases e),(fun e=>by cases e)⟩
theorem fX.r {s:bR}(h:fX s)(r:s.a=0∨s.a=1)(t:ae)(i:t.length<=200):fX (iC s t).1∧∀e∈(iC s t).2,e.e:=by
 unfold iC;by_cases m:s.a=0
 . rw[if_pos m];by_cases g:t=[]
   . rw[if_pos g];exact⟨h,fun e a=>by cases a⟩
   . rw[if_neg g];cases d:dw t with
     | inl c=>exact⟨h.e,fun e a=>by simp at a;subst a;exact trivial⟩
     | inr u=>exact⟨⟨by show 1<=4;omega,h.a,h.b,fun _=>GB i d,(fun e=>by cases e),(fun e=>by cases e)⟩,fun e a=>by cases a⟩
 . rw[if_neg m];obtain⟨b,j⟩:=h.f (by omega);have l:∀k:Int,iD { s.c with d:=k }:=fun k=>⟨b.d,b.c,b.e,b.a,b.b⟩;by_cases g:t=[]
   . rw[if_pos g];cases p:gC s.c with
     | inl c=>exact⟨h.e,fun e a=>by simp at a;subst a;exact trivial⟩
     | inr k =>
       have v:=yf p;simp only;by_cases n:k=0
       . rw[if_pos n];refine⟨⟨ax _,h.a,h.b,(fun e=>by cases e),(fun e=>by cases e),(fun e=>by cases e)⟩,fun e a=>?_⟩;simp at a;rcases a with rfl | rfl
         . exact l k
         . exact trivial
       . rw[if_neg n];by_cases o:0<k
         . rw[if_pos o];refine⟨⟨by show 2<=4;omega,h.a,h.b,(fun e=>by cases e),fun _=>⟨by show 0<k.toNat;omega,by show k.toNat<=4000;omega⟩,(fun e=>by cases e)⟩,fun e a=>?_⟩;simp at a;subst a;exact l k
         . rw[if_neg o];refine⟨⟨by show 3<=4;omega,h.a,h.b,(fun e=>by cases e),(fun e=>by cases e),fun _=>⟨kb.r,rfl,by show(0:Nat)≠4;omega⟩⟩,fun e a=>?_⟩;simp at a;subst a;exact l k
   . rw[if_neg g];split
     . exact⟨h.e,fun e a=>by simp at a;subst a;exact trivial⟩
     . rename_i q;split
       . exact⟨h.e,fun e a=>by simp at a;subst a;exact trivial⟩
       . have:=zP t;refine⟨⟨h.d,h.a,h.b,fun _=>⟨⟨b.d,b.c,b.e,?_,fun f d=>?_⟩,j⟩,h.g,h.c⟩,fun e a=>by cases a⟩
         . have:=b.a;show(s.c.a++[((aP t).b,(aP t).c)]).length<=16;rw[aF];simp;omega
         . rcases dm.1 d with d | d
           . exact b.b f d
           . simp at d;subst d;exact⟨ce this.1 i,ce this.2 i⟩
theorem ye {s:cw}{c:UInt8}(h:qX s):(cY s c).length<=200∧∀b∈cY s c,cG b.toNat=true:=by
 unfold cY;split
 . exact⟨h.c,h.d⟩
 . exact⟨ax _,fun b a=>by cases a⟩
theorem fX.q {s:bR}(h:fX s)(c:UInt8):fX (cK s c).1∧∀e∈(cK s c).2,e.e:=by
 have g:fX { s with a:=0 }:=⟨ax _,h.a,h.b,(fun e=>by cases e),(fun e=>by cases e),(fun e=>by cases e)⟩;unfold cK;split
 . exact⟨h,fun e b=>by cases b⟩
 . split
   . rename_i d;obtain⟨l,m⟩:=h.g d;split
     . refine⟨⟨ax _,h.a,h.b,(fun e=>by cases e),(fun e=>by cases e),(fun e=>by cases e)⟩,fun e b=>?_⟩;simp at b;rcases b with rfl | rfl <;> exact trivial
     . refine⟨⟨h.d,h.a,h.b,h.f,fun _=>⟨by show 0<s.e-1;omega,by show s.e-1<=4000;omega⟩,h.c⟩,fun e b=>?_⟩;simp at b;subst b;exact trivial
   . split
     . rename_i f;obtain⟨i,n,o⟩:=h.c f;split
       . exact⟨h.e,fun e b=>by simp at b;subst b;exact trivial⟩
       . split
         . exact⟨g,fun e b=>by simp at b;subst b;exact trivial⟩
         . rename_i p j;refine⟨⟨h.d,h.a,h.b,h.f,h.g,fun _=>⟨i.q c,by show(df s.d c).a=0;omega,j⟩⟩,fun e b=>?_⟩;unfold eu at b;split at b
           . cases b
           . simp at b;subst b;exact trivial
     . rename_i q d f;have r:=h.d;split
       . exact⟨h.e,fun e b=>by simp at b;subst b;exact trivial⟩
       . split
         . have k:fX { s with b:=dv }:=⟨h.d,qX.a,rfl,h.f,h.g,h.c⟩;exact k.r (by show s.a=0∨s.a=1;omega) _ (ye h.a).1
         . exact⟨⟨h.d,xU h.a,by rename_i a _;show(bu s.b c).a=0;omega,h.f,h.g,h.c⟩,fun e b=>by cases b⟩
theorem fX.j:∀(l:ae) {s:bR},fX s->fX (cP s l)
 | [],_,h=>h
 | c::t,s,h=>fX.j t (s:=(cK s c).1) (h.q c).1
theorem BJ:∀(l:ae) {s:bR},fX s->∀e∈dc s l,e.e
 | [],_,_=>fun e a=>by cases a
 | c :: t, s, h => fun e a => by
   rcases dm.1 a with a | a
   . exact(h.q c).2 e a
   . exact BJ t (h.q c).1 e a
theorem vK:∀(l:List aS),(∀e∈l,e.e)->∀e∈aH l,e.e
 | [],_=>fun e d=>by cases d
 | .head h :: r, k => fun e d => by
   rw[aH] at d;rcases fr.1 d with rfl | d
   . exact k _ (mR ..)
   . exact vK r (fun x f=>k x (iW _ f)) e d
 | .fin :: r, k => fun e d => by
   rw[aH] at d;rcases fr.1 d with rfl | d
   . exact trivial
   . exact vK r (fun x f=>k x (iW _ f)) e d
 | .fail c :: r, k => fun e d => by
   rw[aH] at d;rcases fr.1 d with rfl | d
   . exact trivial
   . exact vK r (fun x f=>k x (iW _ f)) e d
 | .body a :: r, k => fun e d => by
   have g:=vK r (fun x f=>k x (iW _ f));rw[aH] at d;cases i:aH r with
   | nil=>rw[i] at d;simp at d;subst d;exact trivial
   | cons y q =>
     rw[i] at d g;cases y with
     | body b =>
       rcases fr.1 d with rfl | d
       . exact trivial
       . exact g e (iW _ d)
     | head h =>
       rcases fr.1 d with rfl | d
       . exact trivial
       . exact g e d
     | fin =>
       rcases fr.1 d with rfl | d
       . exact trivial
       . exact g e d
     | fail c =>
       rcases fr.1 d with rfl | d
       . exact trivial
       . exact g e d
def bT:List aS->Nat
 | []=>0
 | .body a::r=>a.length+bT r
 | _::r=>bT r
def eL (l:List aS):Prop:=∀a,aS.body a∈l->a≠[]
theorem rh:∀a b:List aS,bT (a++b)=bT a+bT b
 | [],b=>by simp[bT]
 | .body x::r,b=>by rw[gV,bT,bT,rh r b];omega
 | .head _::r,b=>rh r b
 | .fin::r,b=>rh r b
 | .fail _::r,b=>rh r b
theorem sZ:∀l:List aS,bT (aH l)=bT l
 | []=>rfl
 | .head _::r=>by rw[aH];exact sZ r
 | .fin::r=>by rw[aH];exact sZ r
 | .fail _::r=>by rw[aH];exact sZ r
 | .body a :: r => by
   have c:=sZ r;rw[aH];cases d:aH r with
   | nil=>rw[d] at c;simp only[bT] at c ⊢;omega
   | cons e q =>
     rw[d] at c;cases e with
     | body b=>simp only[bT,aF] at c ⊢;omega
     | head _=>simp only[bT] at c ⊢;omega
     | fin=>simp only[bT] at c ⊢;omega
     | fail _=>simp only[bT] at c ⊢;omega
theorem sX:∀l:List aS,(aH l).length<=l.length
 | []=>ak _
 | .head _::r=>by rw[aH,bO,bO];have:=sX r;omega
 | .fin::r=>by rw[aH,bO,bO];have:=sX r;omega
 | .fail _::r=>by rw[aH,bO,bO];have:=sX r;omega
 | .body a :: r => by
   have b:=sX r;rw[aH];cases c:aH r with
   | nil=>rw[c] at b;simp only[bO,lD] at b ⊢;omega
   | cons e q =>
     rw[c] at b;cases e <;> simp only[bO] at b ⊢ <;> omega
theorem te:∀l:List aS,eL l->eL (aH l)
 | [],h=>h
 | .head _ :: r, h => by
   have d:=te r (fun a ha=>h a (iW _ ha));rw[aH];intro a ha;rcases fr.1 ha with ha | ha
   . cases ha
   . exact d a ha
 | .fin :: r, h => by
   have d:=te r (fun a ha=>h a (iW _ ha));rw[aH];intro a ha;rcases fr.1 ha with ha | ha
   . cases ha
   . exact d a ha
 | .fail _ :: r, h => by
   have d:=te r (fun a ha=>h a (iW _ ha));rw[aH];intro a ha;rcases fr.1 ha with ha | ha
   . cases ha
   . exact d a ha
 | .body x :: r, h => by
   have d:=te r (fun a ha=>h a (iW _ ha));have f:x≠[]:=h x (mR ..);rw[aH];cases g:aH r with
   | nil =>
     intro a ha;simp at ha;subst ha;exact f
   | cons e q =>
     rw[g] at d;have c:∀a,aS.body a∈aS.body x::e::q->a≠[]:=fun a ha=>by
      rcases fr.1 ha with ha | ha
      . injection ha with ha;subst ha;exact f
      . exact d a ha
     cases e with
     | body b =>
       intro a ha;rcases fr.1 ha with ha | ha
       . injection ha with ha;subst ha;simp[f]
       . exact d a (iW _ ha)
     | head _=>exact c
     | fin=>exact c
     | fail _=>exact c
theorem Gu {a b:List aS}(h:eL a)(k:eL b):eL (a++b):=by grind [eL]
theorem PK (s:bR)(t:ae):(iC s t).2.length<=2∧bT (iC s t).2=0∧eL (iC s t).2:=by grind [iC,bT,eL]
theorem PL (s:bR)(c:UInt8):(cK s c).2.length<=2∧bT (cK s c).2<=1∧eL (cK s c).2:=by
 have e:∀c,([aS.fail c]:List aS).length<=2∧bT [aS.fail c]<=1∧eL [aS.fail c]:=fun c=>⟨by simp,ax _,fun a ha=>by simp at ha⟩;have b:([]:List aS).length<=2∧bT []<=1∧eL []:=⟨by simp,ax _,fun a ha=>by cases ha⟩;unfold cK;split
 . exact b
 . split
   . split
     . exact⟨by simp,by simp[bT],fun a ha=>by simp at ha;subst ha;simp⟩
     . exact⟨by simp,by simp[bT],fun a ha=>by simp at ha;subst ha;simp⟩
   . split
     . split
       . exact e _
       . split
         . exact⟨by simp,ax _,fun a ha=>by simp at ha⟩
         . have:=Jq s.d c;unfold eu;split
           . exact b
           . rename_i d;exact⟨by simp,by simp only[bT];omega,fun a ha=>by simp at ha;subst ha;exact d⟩
     . split
       . exact e _
       . split
         . have:=PK { s with b:=dv } (cY s.b c);exact⟨this.1,by omega,this.2.2⟩
         . exact b
theorem BL:∀(l:ae) (s:bR),(dc s l).length<=2*l.length∧bT (dc s l)<=l.length∧eL (dc s l)
 | [],s=>⟨by simp[dc],by simp[dc,bT],fun a ha=>by cases ha⟩
 | c :: t, s => by
   have b:=PL s c;have d:=BL t (cK s c).1;rw[dc,aF,rh,bO];exact⟨by omega,by omega,Gu b.2.2 d.2.2⟩
theorem GN (s:bR)(l:ae):(aH (dc s l)).length<=2*l.length∧bT (aH (dc s l))<=l.length∧eL (aH (dc s l))∧eZ (aH (dc s l)):=by grind [aH,dc,bT,eL,eZ,BL,sX,sZ,te,rg]
def yb:ae:=[67,111,110,116,101,110,116,45,76,101,110,103,116,104]
theorem Gk {n:Nat}(h:n<1000000000):(bz yb (ba 8 n)).2=0∧(bz yb (ba 8 n)).1=ya++ba 8 n:=by
 have c:=BB 8 n h;have f:=jq 8 n;have d:yb.length=14:=rfl;unfold bz;rw[if_neg (by decide),if_neg (by rw[d];omega),if_neg]
 . exact⟨rfl,rfl⟩
 . rintro (e | e)
   . have:cF (ba 8 n)=true:=pm.2 fun b a=>(c b a).1;rw[this] at e;cases e
   . exact e (C6 fun b a=>(c b a).2)
theorem Gx:∀(b:List dR) (s:ae),er b=.inr s->s.length<=202*b.length
 | [],s,h=>by injection h with h;subst h;exact ax _
 | f :: r, s, h => by
   rw[er] at h;split at h
   . cases h
   . rename_i d;have d:(bz f.1 f.2).2=0:=by omega
     cases a:er r with
     | inl c=>rw[a] at h;cases h
     | inr t =>
       rw[a] at h;injection h with h;subst h;have e:=Gx r t a;have g:(bz f.1 f.2).1.length<=200:=by have i:=Dy f.1 f.2;have j:=(DA d).2;omega
       simp only[aF,bO];omega
theorem PD (h:cf)(a:ae)(b:(ic h a).2=0):0<(ic h a).1.length∧(ic h a).1.length<=8000:=by
 unfold ic at b ⊢;by_cases k:cT h.c=F
 . rw[if_pos k] at b;cases b
 rw[if_neg k] at b ⊢;by_cases l:h.b.head?≠M 47∨32∈h.b∨9∈h.b∨cF h.b=F
 . rw[if_pos l] at b;cases b
 rw[if_neg l] at b ⊢;by_cases m:200<h.c.length+h.b.length+10∨4000<a.length
 . rw[if_pos m] at b;cases b
 rw[if_neg m] at b ⊢;by_cases n:16<=h.a.length
 . rw[if_pos n] at b;cases b
 rw[if_neg n] at b ⊢;by_cases o:bU h.a le≠[]∨bU h.a lg≠[]
 . rw[if_pos o] at b;cases b
 rw[if_neg o] at b ⊢;by_cases p:(bU h.a mJ).length≠1
 . rw[if_pos p] at b;cases b
 rw[if_neg p] at b ⊢;cases f:er h.a with
 | inl c =>
   rw[f] at b;exfalso;have g:∀i c,er i=.inl c->c≠0:=by
    intro i;induction i with
    | nil=>intro c e;cases e
    | cons x r q =>
      intro c e;rw[er] at e;split at e
      . rename_i t;injection e with e;subst e;exact t
      . cases j:er r with
        | inl d=>rw[j] at e;injection e with e;subst e;exact q d j
        | inr d=>rw[j] at e;cases e
   exact g _ c f b
 | inr s =>
   have w:=Gx h.a s f;have y:=(jq 8 a.length).1;have u:jO.length=8:=rfl;have v:ew.length=14:=rfl;simp only[aF,bO,lD,u,v];omega
theorem PW (f:Nat):fO f []=([],F):=by
 cases f with
 | zero=>rfl
 | succ f=>rfl
theorem Fg (l:ae):∀(t:ae) (i:Nat),i<=200->(km l i t).b.length<=200
 | [],i,_=>ax _
 | c :: t, i, hi => by
   unfold km;split
   . split
     . exact ax _
     . split
       . show(l.take i).length<=200;rw[bP];omega
       . exact ax _
   . split
     . exact ax _
     . split
       . exact ax _
       . split
         . exact ax _
         . exact Fg l t (i+1) (by omega)
theorem Fh (l:ae):(aw l).b.length<=200:=Fg l l 0 (by omega)
theorem C5:∀(f:Nat) (l:ae) (n:Nat),(sy f l n).a<=l.length
 | 0,_,_=>ax _
 | f + 1, l, n => by
   have a:=vm l;unfold sy;split
   . exact a
   . split
     . exact a
     . split
       . exact a
       . split
         . exact a
         . have:=C5 f (l.drop (aw l).a) (n+1);rw[bV] at this;show(aw l).a+(sy f (l.drop (aw l).a) (n+1)).a<=l.length;omega
theorem C8:∀(f:Nat) (l:ae) (n:Nat),(uF f l n).a<=l.length
 | 0,_,_=>ax _
 | f + 1, l, n => by
   have a:=vm l;unfold uF;split
   . exact a
   . split
     . exact a
     . split
       . exact a
       . split
         . have:=C5 (f+1) (l.drop (aw l).a) 0;rw[bV] at this;show(aw l).a+(sy (f+1) (l.drop (aw l).a) 0).a<=l.length;omega
         . have d:(l.drop (aw l).a).length=l.length-(aw l).a:=bV;simp only;split
           . show(aw l).a+(l.drop (aw l).a).length<=l.length;omega
           . rename_i e;have b:=vm ((l.drop (aw l).a).drop (dK (aw l).b).1.toNat);rw[bV] at b;split
             . show(aw l).a+(dK (aw l).b).1.toNat+(aw ((l.drop (aw l).a).drop (dK (aw l).b).1.toNat)).a<=l.length;omega
             . split
               . show(aw l).a+(dK (aw l).b).1.toNat+(aw ((l.drop (aw l).a).drop (dK (aw l).b).1.toNat)).a<=l.length;omega
               . have c:=C8 f (((l.drop (aw l).a).drop (dK (aw l).b).1.toNat).drop (aw ((l.drop (aw l).a).drop (dK (aw l).b).1.toNat)).a) (n+(dK (aw l).b).1.toNat);rw[bV,bV] at c;show(aw l).a+(dK (aw l).b).1.toNat+(aw ((l.drop (aw l).a).drop (dK (aw l).b).1.toNat)).a+(uF f _ _).a<=l.length;omega
theorem C9 (l:ae):(eU l).a<=l.length:=C8 _ l 0
theorem Pw {t:ae}{c:Nat}(h:dw t=.inl c):c≠0:=by grind [dw]
theorem iD.f {h:cf}(b:iD h)(t:ae)(c:t.length<=200)(d:h.a.length≠16):iD { h with a:=h.a++[((aP t).b,(aP t).c)] }:=by
 have:=zP t;refine⟨b.d,b.c,b.e,?_,fun f a=>?_⟩
 . have:=b.a;show(h.a++[((aP t).b,(aP t).c)]).length<=16;rw[aF];simp;omega
 . rcases dm.1 a with a | a
   . exact b.b f a
   . simp at a;subst a;exact⟨ce this.1 c,ce this.2 c⟩
def iE (f:Nat)(r:ae)(over:Bool)(c:Nat):List aS×Bool :=
 if c≠0 then ([.fail c],F) else if over=F then ([],true) else (.fin::(fO f r).1,(fO f r).2)
def pc (f:Nat)(h:cf)(r:ae):List aS×Bool :=
 match gC h with
 | .inl c=>([.fail c],F)
 | .inr k =>
   if 0<=k then
    (if k.toNat <= r.length then (.head { h with d := k } :: eu (r.take k.toNat) ++ (iE f (r.drop k.toNat) true 0).1, (iE f (r.drop k.toNat) true 0).2)
     else (.head { h with d:=k }::eu r++(iE f [] F 0).1,(iE f [] F 0).2))
   else (.head { h with d:=k }::eu (eU r).b++(iE f (r.drop (eU r).a) (eU r).d (eU r).c).1,(iE f (r.drop (eU r).a) (eU r).d (eU r).c).2)
def sW (f:Nat)(h:cf):BD->List aS×Bool
 | .fail c=>([.fail c],F)
 | .open_=>([],true)
 | .ok fs r=>pc f { h with a:=fs } r
theorem PP {h:cf}{c:Nat}(e:gC h=.inl c):c≠0:=by
 unfold gC at e;split at e
 . injection e with e;omega
 . split at e
   . split at e
     . injection e with e;omega
     . split at e
       . injection e with e;omega
       . cases e
   . split at e
     . rename_i d b;injection e with e;subst e;have a:∀(f:ae) (l:List (ae)) (n:Int) (c:Nat),gm f n l=.inl c->c≠0:=by
        intro f l;induction l with
        | nil=>intro n c e;cases e
        | cons v t g =>
          intro n c e;unfold gm at e;split at e
          . injection e with e;omega
          . split at e
            . injection e with e;omega
            . exact g _ _ e
       exact a _ _ _ _ b
     . split at e
       . injection e with e;omega
       . cases e
theorem Px (f:Nat)(h:cf)(x:List dR)(a:BD):sW f { h with a:=x } a=sW f h a:=by cases a <;> rfl
theorem PT {f:Nat}{l:ae}(h:(aw l).c≠0):fO (f+1) l=([.fail (aw l).c],F):=by rw[fO,if_pos h]
theorem PX {f:Nat}{l:ae}(h:(aw l).c=0)(e:(aw l).d=F):fO (f+1) l=([],decide (l≠[])):=by rw[fO,if_neg (by omega),if_pos e]
theorem PQ {f:Nat}{l:ae}(h:(aw l).c=0)(e:(aw l).d=true)(t:(aw l).b=[]):fO (f+1) l=fO f (l.drop (aw l).a):=by rw[fO,if_neg (by omega),if_neg (by rw[e];simp),if_pos t]
theorem PV {f:Nat}{l:ae}{c:Nat}(h:(aw l).c=0)(e:(aw l).d=true)(t:(aw l).b≠[])(k:dw (aw l).b=.inl c):fO (f+1) l=([.fail c],F):=by grind [aw,dw,fO]
theorem PM {f:Nat}{l:ae}{d:cf}(h:(aw l).c=0)(e:(aw l).d=true)(t:(aw l).b≠[])(k:dw (aw l).b=.inr d):fO (f+1) l=sW f d (fY (f+1) (l.drop (aw l).a) []):=by
 rw[fO,if_neg (by omega),if_neg (by rw[e];simp),if_neg t,k];cases fY (f+1) (l.drop (aw l).a) [] with
 | fail c=>rfl
 | open_=>rfl
 | ok j r =>
   show _=pc f { d with a:=j } r;unfold pc;dsimp only;generalize gC { c:=d.c,b:=d.b,e:=d.e,a:=j,d:=d.d }=L;cases L with
   | inl c=>rfl
   | inr k =>
     simp only[iE];by_cases b:0<=k
     . rw[if_pos b,if_pos b];by_cases a:k.toNat<=r.length
       . rw[if_pos a,if_pos a];simp
       . rw[if_neg a,if_neg a];simp
     . rw[if_neg b,if_neg b];by_cases a:(eU r).c=0
       . rw[if_neg (by omega)];by_cases g:(eU r).d=F
         . rw[if_pos g];simp[a,g]
         . rw[if_neg g];have i:(eU r).d=true:=by simpa using g
           simp[a,i]
       . rw[if_pos a];simp[a]
theorem PE {f:Nat}{l:ae}{a:List dR}(h:(aw l).c≠0):fY (f+1) l a=.fail (aw l).c:=by rw[fY,if_pos h]
theorem PF {f:Nat}{l:ae}{a:List dR}(h:(aw l).c=0)(e:(aw l).d=F):fY (f+1) l a=.open_:=by rw[fY,if_neg (by omega),if_pos e]
theorem PN {f:Nat}{l:ae}{a:List dR}(h:(aw l).c=0)(e:(aw l).d=true)(t:(aw l).b=[]):fY (f+1) l a=.ok a (l.drop (aw l).a):=by simp_all [aw,fY]
theorem PG {f:Nat}{l:ae}{a:List dR}(h:(aw l).c=0)(e:(aw l).d=true)(t:(aw l).b≠[])(m:a.length=16):fY (f+1) l a=.fail 8:=by simp_all [dR,aw,fY]
theorem PO {f:Nat}{l:ae}{a:List dR}(h:(aw l).c=0)(e:(aw l).d=true)(t:(aw l).b≠[])(m:a.length≠16)(k:(aP (aw l).b).a≠0):fY (f+1) l a=.fail (aP (aw l).b).a:=by simp_all [dR,aw,aP,fY]
theorem PH {f:Nat}{l:ae}{a:List dR}(h:(aw l).c=0)(e:(aw l).d=true)(t:(aw l).b≠[])(m:a.length≠16)(k:(aP (aw l).b).a=0):fY (f+1) l a=fY f (l.drop (aw l).a) (a++[((aP (aw l).b).b,(aP (aw l).b).c)]):=by simp_all [dR,aw,aP,fY]
