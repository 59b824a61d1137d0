/- Small texts, one behind the other: PlainRB, PlainRC, PlainRD, PlainRE, PlainRF, PlainRK, PlainRpB, PlainRM, PlainRN. -/
import Derived.Test.YthhklgjjnaeaoaaGreatDoorPlainRA
open Bool renaming false->F
namespace Go.Proofs.YthhklgjjnaeaoaaGreatDoor.Rq
def Apart:List Ev->Prop
 | .body _::_=>False
 | _=>True
theorem Q9 {a:av}{r:List Ev}(h:Apart (join r)):join (.body a::r)=.body a::join r:=by grind [Apart,join]
theorem Ra {a b:av}{r:List Ev}:join (.body a::.body b::r)=join (.body (a++b)::r):=by grind [join]
theorem sF:∀(l:av) (s:St),s.ph=4->outs s l=[]∧fold s l=s
 | [],s,_=>⟨rfl,rfl⟩
 | c :: t, s, h => by
   have e:next s c=(s,[]):=by unfold next;rw[if_pos h]
   have a:=sF t s h;constructor
   . show(next s c).2++outs (next s c).1 t=[];rw[e];exact a.1
   . show fold (next s c).1 t=s;rw[e];exact a.2
def Joined:List Ev->Prop
 | []=>True
 | .body _::r=>Apart r∧Joined r
 | _::r=>Joined r
theorem lS:∀l:List Ev,Joined (join l)
 | []=>trivial
 | .head h::r=>by rw[join];exact lS r
 | .fin::r=>by rw[join];exact lS r
 | .fail c::r=>by rw[join];exact lS r
 | .body a :: r => by
   have d:=lS r;rw[join];cases f:join r with
   | nil=>exact⟨trivial,trivial⟩
   | cons e q =>
     rw[f] at d;cases e with
     | body b=>exact d
     | head h=>exact⟨trivial,d⟩
     | fin=>exact⟨trivial,d⟩
     | fail c=>exact⟨trivial,d⟩
theorem jd:∀l:List Ev,Joined l->join l=l
 | [],_=>rfl
 | .head h::r,k=>by rw[join,jd r k]
 | .fin::r,k=>by rw[join,jd r k]
 | .fail c::r,k=>by rw[join,jd r k]
 | .body a :: r, k => by
   have e:=jd r k.2;rw[Q9 (by rw[e];exact k.1),e]
theorem join_join (l:List Ev):join (join l)=join l:=jd _ (lS l)
theorem qC:∀(a b:List Ev),join (a++join b)=join (a++b)
 | [],b=>join_join b
 | .head h::r,b=>by rw[dR,dR,join,join,qC r b]
 | .fin::r,b=>by rw[dR,dR,join,join,qC r b]
 | .fail c::r,b=>by rw[dR,dR,join,join,qC r b]
 | .body x::r,b=>by rw[dR,dR,join,join,qC r b]
theorem join_cons (x:av)(l r:List Ev)(h:join l=join r):join (.body x::l)=join (.body x::r):=by rw[join,join,h]
theorem ql:∀(a b:List Ev),join (join a++b)=join (a++b)
 | [],b=>rfl
 | .head h::r,b=>by rw[join,dR,dR,join,join,ql r b]
 | .fin::r,b=>by rw[join,dR,dR,join,join,ql r b]
 | .fail c::r,b=>by rw[join,dR,dR,join,join,ql r b]
 | .body x :: r, b => by
   have d:=ql r b;have f:=join_cons x _ _ d;rw[dR,<-f];have g:join (.body x::r)=match join r with | .body y::q=>.body (x++y)::q | q=>.body x::q:=by
    rw[join];cases join r with
    | nil=>rfl
    | cons e q=>cases e <;> rfl
   rw[g];cases join r with
   | nil=>rfl
   | cons e q => cases e with
     | body y =>
       show join (.body (x++y)::(q++b))=join (.body x::.body y::(q++b))
       rw[Ra]
     | head h=>rfl
     | fin=>rfl
     | fail c=>rfl
def lines:List Fl->Nat ⊕ av
 | []=>.inr []
 | f :: r => if (Fd.text f.1 f.2).2 ≠ 0 then .inl (Fd.text f.1 f.2).2 else match lines r with
   | .inl c=>.inl c
   | .inr s=>.inr ((Fd.text f.1 f.2).1++13::10::s)
def MB:av:=[67,111,110,116,101,110,116,45,76,101,110,103,116,104]
def v11:av:=[72,84,84,80,47,49,46,49]
def text (h:Hd)(body:av):av×Nat :=
 if Ch.isToken h.method=F then ([],6)
 else if h.target.head?≠some 47∨32∈h.target∨9∈h.target∨Ch.gV h.target=F then ([],5)
 else if 200<h.method.length+h.target.length+10∨4000<body.length then ([],4)
 else if 16<=h.fields.length then ([],8)
 else if vals h.fields CY≠[]∨vals h.fields CZ≠[] then ([],12)
 else if (vals h.fields nHost).length≠1 then ([],13)
 else match lines h.fields with
  | .inl c=>([],c)
  | .inr s=>(h.method++32::(h.target++32::(v11++13::10::(s++(MB++[58,32]++Ch.iV 8 body.length++13::10::13::10::body)))),0)
theorem YT:∀(m w:av),(∀b∈m,b≠32)->cut w m=[w++m]:=by intro l;induction l <;> grind [cut]
theorem J5:∀(m w t:av),(∀b∈m,b≠32)->cut w (m++32::t)=(w++m)::cut [] t:=by intro l;induction l <;> grind [cut]
theorem J6:∀(f n:Nat),n<10 ^ (f+1)->∀b∈Ch.iV f n,Ch.visible b.toNat=true∧Ch.ws.contains b=F:=by
 have c:∀j,j<10->∀b∈Ch.iV 0 j,Ch.visible b.toNat=true∧Ch.ws.contains b=F:=fun j d=>(show ∀j:Fin 10,∀b∈Ch.iV 0 j.val,Ch.visible b.toNat=true∧Ch.ws.contains b=F by decide +kernel) ⟨j,d⟩;intro f;induction f with
 | zero=>intro n h b a;exact c n (by simpa using h) b a
 | succ f e =>
   intro n h b a;unfold Ch.iV at a;split at a
   . rename_i g;exact c n g b a
   . rw[bq] at a;rcases a with a | a
     . exact e (n / 10) (by rw[Nat.pow_succ] at h;omega) b a
     . exact c (n % 10) (by omega) b a
theorem Cj (n:Nat)(h:n<=4000):(Fd.text MB (Ch.iV 8 n)).2=0∧(Fd.text MB (Ch.iV 8 n)).1=MB++[58,32]++Ch.iV 8 n:=by
 have c:=J6 8 n (by omega);have f:=Ch.jm 8 n;have d:MB.length=14:=rfl;unfold Fd.text;rw[if_neg (by decide),if_neg (by rw[d];omega),if_neg]
 . exact⟨rfl,rfl⟩
 . rintro (e | e)
   . have:Ch.gV (Ch.iV 8 n)=true:=dI.2 fun b a=>(c b a).1;rw[this] at e;cases e
   . exact e (Ck.FY fun b a=>(c b a).2)
def pQ:List Ev->Bool
 | []=>F
 | [.body _]=>true
 | _::r=>pQ r
def Ev.tV:Ev->Bool
 | .body _=>true
 | _=>F
theorem oP:∀(l:List Ev) (e:Ev),Joined l->(e.tV=true->pQ l=F)->Joined (l++[e])
 | [],e,_,_=>by cases e <;> first | exact trivial | exact⟨trivial,trivial⟩
 | [x], e, c, h => by
   cases x with
   | body a =>
     cases e with
     | body b=>exact absurd (h rfl) (by simp[pQ])
     | head _=>exact⟨trivial,trivial⟩
     | fin=>exact⟨trivial,trivial⟩
     | fail _=>exact⟨trivial,trivial⟩
   | head _=>cases e <;> first | exact trivial | exact⟨trivial,trivial⟩
   | fin=>cases e <;> first | exact trivial | exact⟨trivial,trivial⟩
   | fail _=>cases e <;> first | exact trivial | exact⟨trivial,trivial⟩
 | x :: y :: r, e, c, h => by
   have d:e.tV=true->pQ (y::r)=F:=fun k=>by
    have:=h k;cases x <;> exact this
   cases x with
   | body a=>exact⟨by have:=c.1;cases y <;> exact this,oP (y::r) e c.2 d⟩
   | head _=>exact oP (y::r) e c d
   | fin=>exact oP (y::r) e c d
   | fail _=>exact oP (y::r) e c d
theorem MX {l:List Ev}{e:Ev}(a:Joined l)(h:e.tV=true->pQ l=F):join (l++[e])=l++[e]:=jd _ (oP l e a h)
theorem oQ:∀(l:List Ev) (a b:av),Joined (l++[.body a])->Joined (l++[.body b])
 | [],_,_,h=>h
 | [.body x],_,_,h=>absurd h.1 (fun k=>k)
 | .body x::y::r,a,b,h=>⟨by have:=h.1;cases y <;> exact this,oQ (y::r) a b h.2⟩
 | .head _::r,a,b,h=>oQ r a b h
 | .fin::r,a,b,h=>oQ r a b h
 | .fail _::r,a,b,h=>oQ r a b h
theorem J7 {l:List Ev}{a b:av}(h:Joined (l++[.body a])):join (l++[.body a]++[.body b])=l++[.body (a++b)]:=by
 rw[dO,<-qC];exact jd _ (oQ l a (a++b) h)
theorem AV:∀(l:List Ev) (e:Ev),pQ (l++[e])=e.tV
 | [],e=>by cases e <;> rfl
 | x::[],e=>by cases x <;> cases e <;> rfl
 | x :: y :: r, e => by
   have:=AV (y::r) e;cases x <;> exact this
theorem yP:∀(l:List Ev),pQ l=true->∃q a,l=q++[.body a]
 | [],h=>by cases h
 | [x], h => by
   cases x with
   | body a=>exact⟨[],a,rfl⟩
   | head _=>cases h
   | fin=>cases h
   | fail _=>cases h
 | x :: y :: r, h => by
   have:pQ (y::r)=true:=by cases x <;> exact h
   obtain⟨q,a,e⟩:=yP (y::r) this;exact⟨x::q,a,by rw[e];rfl⟩
theorem J8 (l a b:List Ev):join (join (l++a)++b)=join (l++(a++b)):=by rw[ql,dO]
theorem zX (s:St)(l:av)(c:UInt8):outs s (l++[c])=outs s l++(next (fold s l) c).2:=by grind [outs,next,fold,oO]
theorem zW (s:St)(l:av)(c:UInt8):fold s (l++[c])=(next (fold s l) c).1:=by rw[lQ];rfl
structure oU (h:Hd):Prop where
 method:h.method.length<=200
 target:h.target.length<=200
 minor:h.minor<=1
 many:h.fields.length<=16
 fields:∀f∈h.fields,f.1.length<=200∧f.2.length<=200
structure Good (s:St):Prop where
 ph:s.ph<=4
 ln:Ln.Good s.ln
 lc:s.ln.code=0
 hd:s.ph=1->oU s.hd∧s.hd.length=0
 left:s.ph=2->0<s.left∧s.left<=4000
 ck:s.ph=3->Ck.Good s.ck∧s.ck.code=0∧s.ck.ph≠4
def Ev.tX:Ev->Prop
 | .head h=>oU h
 | _=>True
theorem Good.start:Good start:=⟨aA _,Ln.Good.start,rfl,(fun h=>by cases h),(fun h=>by cases h),(fun h=>by cases h)⟩
theorem YU:∀(t w:av),(cut w t).length=t.count 32+1:=by intro l;induction l <;> grind [cut]
theorem Db {c:UInt8}{t:av}(h:Fd.at_ c t<t.length):t=t.take (Fd.at_ c t)++c::t.drop (Fd.at_ c t+1):=by
 conv=>lhs;rw[<-bV (Fd.at_ c t) t,aD h,Fd.PK h]
theorem free_at {c:UInt8}{t:av}:∀b∈t.take (Fd.at_ c t),b≠c:=by
 intro b a;obtain⟨j,d,rfl⟩:=List.mem_iff_getElem.1 a;rw[bW] at d;rw[List.getElem_take];exact Fd.JF (by omega) (by omega)
theorem J9 {c:UInt8}{t:av}(h:0<t.count c):Fd.at_ c t<t.length:=by grind [Fd.at_]
theorem Dc {c:UInt8}{t:av}(h:Fd.at_ c t<t.length):t.count c=(t.drop (Fd.at_ c t+1)).count c+1:=by grind [Fd.at_,Db,free_at]
theorem F7 {t:av}(h:t.count 32=2):Fd.at_ 32 t<t.length∧Fd.at_ 32 (t.drop (Fd.at_ 32 t+1))<(t.drop (Fd.at_ 32 t+1)).length ∧
 cut [] t=[t.take (Fd.at_ 32 t),(t.drop (Fd.at_ 32 t+1)).take (Fd.at_ 32 (t.drop (Fd.at_ 32 t+1))),(t.drop (Fd.at_ 32 t+1)).drop (Fd.at_ 32 (t.drop (Fd.at_ 32 t+1))+1)]:=by
 have a:=J9 (c:=32) (t:=t) (by omega);have k:=Dc a;have d:=J9 (c:=32) (t:=t.drop (Fd.at_ 32 t+1)) (by omega);have l:=Dc d;refine⟨a,d,?_⟩;have g:=Db a;have f:=Db d;have i:∀b∈(t.drop (Fd.at_ 32 t+1)).drop (Fd.at_ 32 (t.drop (Fd.at_ 32 t+1))+1),b≠32:=fun b j e=>by
  have:=List.count_pos_iff.2 (e▸j);omega
 conv=>lhs;rw[g]
 rw[J5 _ [] _ free_at,f,J5 _ [] _ free_at,YT _ [] i];simp only[dx];rw[<-f]
theorem Ka {t:av}(h:t.count 32≠2):first t=.inl 5:=by grind [first,YU]
def Ih (m g v:av):Nat ⊕ Hd :=
 if Ch.isToken m=F then .inl 6
 else if g.head?≠some 47∨9∈g then .inl 5
 else if v=[72,84,84,80,47,49,46,49] then .inr ⟨m,g,1,[],0⟩
 else if v=[72,84,84,80,47,49,46,48] then .inr ⟨m,g,0,[],0⟩
 else .inl 11
theorem AX {t:av}(h:t.count 32=2):first t=Ih (t.take (Fd.at_ 32 t)) ((t.drop (Fd.at_ 32 t+1)).take (Fd.at_ 32 (t.drop (Fd.at_ 32 t+1)))) ((t.drop (Fd.at_ 32 t+1)).drop (Fd.at_ 32 (t.drop (Fd.at_ 32 t+1))+1)):=by
 unfold first;rw[(F7 h).2.2];rfl
theorem MZ {t:av}{h:Hd}(g:t.length<=200)(e:first t=.inr h):oU h∧h.length=0:=by
 by_cases b:t.count 32=2
 . rw[AX b] at e;unfold Ih at e;have c:(t.take (Fd.at_ 32 t)).length<=200:=by rw[bW];omega
   have d:((t.drop (Fd.at_ 32 t+1)).take (Fd.at_ 32 (t.drop (Fd.at_ 32 t+1)))).length<=200:=by rw[bW,bT];omega
   split at e
   . cases e
   . split at e
     . cases e
     . split at e
       . injection e with e;subst e;exact⟨⟨c,d,aM _,aA _,fun f a=>by cases a⟩,rfl⟩
       . split at e
         . injection e with e;subst e;exact⟨⟨c,d,aA _,aA _,fun f a=>by cases a⟩,rfl⟩
         . cases e
 . rw[Ka b] at e;cases e
theorem Kc:∀(f:av) (l:List (av)) (n k:Int),0<=n->sizes f n l=.inr k->0<=k
 | f,[],n,k,c,e=>by injection e with e;omega
 | f, v :: t, n, k, c, e => by
   rw[sizes] at e;split at e
   . cases e
   . split at e
     . cases e
     . refine Kc f t _ k ?_ e;have:(Ch.number 10 9 v).1=0∨(Ch.number 10 9 v).1=Ch.numOf 10 v∧v.all (Ch.FK 10)=true∧v.length<=9:=by
        by_cases b:v=[]∨(9:Int)<v.length
        . rw[Ch.tH 10 9 v b];exact Or.inl rfl
        . cases a:v.all (Ch.FK 10)
          . rw[Ch.zS 10 9 v a];exact Or.inl rfl
          . rw[Ch.xM 10 9 v (fun e=>b (Or.inl e)) (fun e=>b (Or.inr e)) a];exact Or.inr ⟨rfl,rfl,by omega⟩
       rcases this with g | ⟨g,a,d⟩
       . omega
       . rw[g];exact(Ch.qX 10 (by omega) (by omega) v a d).1
theorem F8 {h:Hd}{k:Int}(e:len h=.inr k):k=-1∨0<=k∧k<=4000:=by
 unfold len at e;split at e
 . cases e
 . split at e
   . split at e
     . cases e
     . split at e
       . cases e
       . injection e with e;exact Or.inl e.symm
   . split at e
     . cases e
     . rename_i n a;split at e
       . cases e
       . injection e with e;subst e;exact Or.inr ⟨Kc _ _ 0 _ (by omega) a,by omega⟩
theorem Good.dead {s:St}(h:Good s):Good (dead s):=⟨aM _,h.ln,h.lc,(fun e=>by cases e),(fun e=>by cases e),(fun e=>by cases e)⟩
theorem Good.line {s:St}(h:Good s)(r:s.ph=0∨s.ph=1)(t:av)(i:t.length<=200):Good (line s t).1∧∀e∈(line s t).2,e.tX:=by
 unfold Rq.line;by_cases m:s.ph=0
 . rw[if_pos m];by_cases g:t=[]
   . rw[if_pos g];exact⟨h,fun e a=>by cases a⟩
   . rw[if_neg g];cases d:first t with
     | inl c=>exact⟨h.dead,fun e a=>by simp at a;subst a;exact trivial⟩
     | inr u=>exact⟨⟨by show 1<=4;omega,h.ln,h.lc,fun _=>MZ i d,(fun e=>by cases e),(fun e=>by cases e)⟩,fun e a=>by cases a⟩
 . rw[if_neg m];obtain⟨b,j⟩:=h.hd (by omega);have l:∀k:Int,oU { s.hd with length:=k }:=fun k=>⟨b.method,b.target,b.minor,b.many,b.fields⟩;by_cases g:t=[]
   . rw[if_pos g];cases p:len s.hd with
     | inl c=>exact⟨h.dead,fun e a=>by simp at a;subst a;exact trivial⟩
     | inr k =>
       have v:=F8 p;simp only;by_cases n:k=0
       . rw[if_pos n];refine⟨⟨aA _,h.ln,h.lc,(fun e=>by cases e),(fun e=>by cases e),(fun e=>by cases e)⟩,fun e a=>?_⟩;simp at a;rcases a with rfl | rfl
         . exact l k
         . exact trivial
       . rw[if_neg n];by_cases o:0<k
         . rw[if_pos o];refine⟨⟨by show 2<=4;omega,h.ln,h.lc,(fun e=>by cases e),fun _=>⟨by show 0<k.toNat;omega,by show k.toNat<=4000;omega⟩,(fun e=>by cases e)⟩,fun e a=>?_⟩;simp at a;subst a;exact l k
         . rw[if_neg o];refine⟨⟨by show 3<=4;omega,h.ln,h.lc,(fun e=>by cases e),(fun e=>by cases e),fun _=>⟨Ck.Good.start,rfl,by show(0:Nat)≠4;omega⟩⟩,fun e a=>?_⟩;simp at a;subst a;exact l k
   . rw[if_neg g];split
     . exact⟨h.dead,fun e a=>by simp at a;subst a;exact trivial⟩
     . rename_i q;split
       . exact⟨h.dead,fun e a=>by simp at a;subst a;exact trivial⟩
       . have:=Fd.F6 t;refine⟨⟨h.ph,h.ln,h.lc,fun _=>⟨⟨b.method,b.target,b.minor,?_,fun f d=>?_⟩,j⟩,h.left,h.ck⟩,fun e a=>by cases a⟩
         . have:=b.many;show(s.hd.fields++[((Fd.of t).name,(Fd.of t).value)]).length<=16;rw[aV];simp;omega
         . rcases bq.1 d with d | d
           . exact b.fields f d
           . simp at d;subst d;exact⟨dB this.1 i,dB this.2 i⟩
theorem tY {s:Ln.St}{c:UInt8}(h:Ln.Good s):(Ln.text s c).length<=200∧∀b∈Ln.text s c,Ch.visible b.toNat=true:=by
 unfold Ln.text;split
 . exact⟨h.short,h.seen⟩
 . exact⟨aA _,fun b a=>by cases a⟩
theorem Good.next {s:St}(h:Good s)(c:UInt8):Good (next s c).1∧∀e∈(next s c).2,e.tX:=by
 have g:Good { s with ph:=0 }:=⟨aA _,h.ln,h.lc,(fun e=>by cases e),(fun e=>by cases e),(fun e=>by cases e)⟩;unfold Rq.next;split
 . exact⟨h,fun e b=>by cases b⟩
 . split
   . rename_i d;obtain⟨l,m⟩:=h.left d;split
     . refine⟨⟨aA _,h.ln,h.lc,(fun e=>by cases e),(fun e=>by cases e),(fun e=>by cases e)⟩,fun e b=>?_⟩;simp at b;rcases b with rfl | rfl <;> exact trivial
     . refine⟨⟨h.ph,h.ln,h.lc,h.hd,fun _=>⟨by show 0<s.left-1;omega,by show s.left-1<=4000;omega⟩,h.ck⟩,fun e b=>?_⟩;simp at b;subst b;exact trivial
   . split
     . rename_i f;obtain⟨i,n,o⟩:=h.ck f;split
       . exact⟨h.dead,fun e b=>by simp at b;subst b;exact trivial⟩
       . split
         . exact⟨g,fun e b=>by simp at b;subst b;exact trivial⟩
         . rename_i p j;refine⟨⟨h.ph,h.ln,h.lc,h.hd,h.left,fun _=>⟨i.next c,by show(Ck.next s.ck c).code=0;omega,j⟩⟩,fun e b=>?_⟩;unfold some_ at b;split at b
           . cases b
           . simp at b;subst b;exact trivial
     . rename_i q d f;have r:=h.ph;split
       . exact⟨h.dead,fun e b=>by simp at b;subst b;exact trivial⟩
       . split
         . have k:Good { s with ln:=Ln.start }:=⟨h.ph,Ln.Good.start,rfl,h.hd,h.left,h.ck⟩;exact k.line (by show s.ph=0∨s.ph=1;omega) _ (tY h.ln).1
         . exact⟨⟨h.ph,Ln.wH h.ln,by rename_i a _;show(Ln.next s.ln c).code=0;omega,h.hd,h.left,h.ck⟩,fun e b=>by cases b⟩
theorem Good.fold:∀(l:av) {s:St},Good s->Good (fold s l)
 | [],_,h=>h
 | c::t,s,h=>Good.fold t (s:=(Rq.next s c).1) (h.next c).1
theorem qo:∀(l:av) {s:St},Good s->∀e∈outs s l,e.tX
 | [],_,_=>fun e a=>by cases a
 | c :: t, s, h => fun e a => by
   rcases bq.1 a with a | a
   . exact(h.next c).2 e a
   . exact qo t (h.next c).1 e a
theorem oz:∀(l:List Ev),(∀e∈l,e.tX)->∀e∈join l,e.tX
 | [],_=>fun e d=>by cases d
 | .head h :: r, k => fun e d => by
   rw[join] at d;rcases dZ.1 d with rfl | d
   . exact k _ (cu ..)
   . exact oz r (fun x f=>k x (cB _ f)) e d
 | .fin :: r, k => fun e d => by
   rw[join] at d;rcases dZ.1 d with rfl | d
   . exact trivial
   . exact oz r (fun x f=>k x (cB _ f)) e d
 | .fail c :: r, k => fun e d => by
   rw[join] at d;rcases dZ.1 d with rfl | d
   . exact trivial
   . exact oz r (fun x f=>k x (cB _ f)) e d
 | .body a :: r, k => fun e d => by
   have g:=oz r (fun x f=>k x (cB _ f));rw[join] at d;cases i:join r with
   | nil=>rw[i] at d;simp at d;subst d;exact trivial
   | cons y q =>
     rw[i] at d g;cases y with
     | body b =>
       rcases dZ.1 d with rfl | d
       . exact trivial
       . exact g e (cB _ d)
     | head h =>
       rcases dZ.1 d with rfl | d
       . exact trivial
       . exact g e d
     | fin =>
       rcases dZ.1 d with rfl | d
       . exact trivial
       . exact g e d
     | fail c =>
       rcases dZ.1 d with rfl | d
       . exact trivial
       . exact g e d
def iO:List Ev->Nat
 | []=>0
 | .body a::r=>a.length+iO r
 | _::r=>iO r
def Full (l:List Ev):Prop:=∀a,Ev.body a∈l->a≠[]
theorem lU:∀a b:List Ev,iO (a++b)=iO a+iO b
 | [],b=>by simp[iO]
 | .body x::r,b=>by rw[dR,iO,iO,lU r b];omega
 | .head _::r,b=>lU r b
 | .fin::r,b=>lU r b
 | .fail _::r,b=>lU r b
theorem qw:∀l:List Ev,iO (join l)=iO l
 | []=>rfl
 | .head _::r=>by rw[join];exact qw r
 | .fin::r=>by rw[join];exact qw r
 | .fail _::r=>by rw[join];exact qw r
 | .body a :: r => by
   have c:=qw r;rw[join];cases d:join r with
   | nil=>rw[d] at c;simp only[iO] at c ⊢;omega
   | cons e q =>
     rw[d] at c;cases e with
     | body b=>simp only[iO,aV] at c ⊢;omega
     | head _=>simp only[iO] at c ⊢;omega
     | fin=>simp only[iO] at c ⊢;omega
     | fail _=>simp only[iO] at c ⊢;omega
theorem join_length:∀l:List Ev,(join l).length<=l.length
 | []=>aM _
 | .head _::r=>by rw[join,aW,aW];have:=join_length r;omega
 | .fin::r=>by rw[join,aW,aW];have:=join_length r;omega
 | .fail _::r=>by rw[join,aW,aW];have:=join_length r;omega
 | .body a :: r => by
   have b:=join_length r;rw[join];cases c:join r with
   | nil=>rw[c] at b;simp only[aW,bY] at b ⊢;omega
   | cons e q =>
     rw[c] at b;cases e <;> simp only[aW] at b ⊢ <;> omega
theorem qx:∀l:List Ev,Full l->Full (join l)
 | [],h=>h
 | .head _ :: r, h => by
   have d:=qx r (fun a ha=>h a (cB _ ha));rw[join];intro a ha;rcases dZ.1 ha with ha | ha
   . cases ha
   . exact d a ha
 | .fin :: r, h => by
   have d:=qx r (fun a ha=>h a (cB _ ha));rw[join];intro a ha;rcases dZ.1 ha with ha | ha
   . cases ha
   . exact d a ha
 | .fail _ :: r, h => by
   have d:=qx r (fun a ha=>h a (cB _ ha));rw[join];intro a ha;rcases dZ.1 ha with ha | ha
   . cases ha
   . exact d a ha
 | .body x :: r, h => by
   have d:=qx r (fun a ha=>h a (cB _ ha));have f:x≠[]:=h x (cu ..);rw[join];cases g:join r with
   | nil =>
     intro a ha;simp at ha;subst ha;exact f
   | cons e q =>
     rw[g] at d;have c:∀a,Ev.body a∈Ev.body x::e::q->a≠[]:=fun a ha=>by
      rcases dZ.1 ha with ha | ha
      . injection ha with ha;subst ha;exact f
      . exact d a ha
     cases e with
     | body b =>
       intro a ha;rcases dZ.1 ha with ha | ha
       . injection ha with ha;subst ha;simp[f]
       . exact d a (cB _ ha)
     | head _=>exact c
     | fin=>exact c
     | fail _=>exact c
theorem A9 {a b:List Ev}(h:Full a)(k:Full b):Full (a++b):=by grind [Full]
theorem VK (s:St)(t:av):(line s t).2.length<=2∧iO (line s t).2=0∧Full (line s t).2:=by grind [line,iO,Full]
theorem VL (s:St)(c:UInt8):(next s c).2.length<=2∧iO (next s c).2<=1∧Full (next s c).2:=by
 have e:∀c,([Ev.fail c]:List Ev).length<=2∧iO [Ev.fail c]<=1∧Full [Ev.fail c]:=fun c=>⟨by simp,aA _,fun a ha=>by simp at ha⟩;have b:([]:List Ev).length<=2∧iO []<=1∧Full []:=⟨by simp,aA _,fun a ha=>by cases ha⟩;unfold next;split
 . exact b
 . split
   . split
     . exact⟨by simp,by simp[iO],fun a ha=>by simp at ha;subst ha;simp⟩
     . exact⟨by simp,by simp[iO],fun a ha=>by simp at ha;subst ha;simp⟩
   . split
     . split
       . exact e _
       . split
         . exact⟨by simp,aA _,fun a ha=>by simp at ha⟩
         . have:=Ck.YO s.ck c;unfold some_;split
           . exact b
           . rename_i d;exact⟨by simp,by simp only[iO];omega,fun a ha=>by simp at ha;subst ha;exact d⟩
     . split
       . exact e _
       . split
         . have:=VK { s with ln:=Ln.start } (Ln.text s.ln c);exact⟨this.1,by omega,this.2.2⟩
         . exact b
theorem oV:∀(l:av) (s:St),(outs s l).length<=2*l.length∧iO (outs s l)<=l.length∧Full (outs s l)
 | [],s=>⟨by simp[outs],by simp[outs,iO],fun a ha=>by cases ha⟩
 | c :: t, s => by
   have b:=VL s c;have d:=oV t (next s c).1;rw[outs,aV,lU,aW];exact⟨by omega,by omega,A9 b.2.2 d.2.2⟩
theorem Qb (s:St)(l:av):(join (outs s l)).length<=2*l.length∧iO (join (outs s l))<=l.length∧Full (join (outs s l))∧Joined (join (outs s l)):=by grind [join,outs,iO,Full,Joined,oV,join_length,qw,qx,lS]
end Go.Proofs.YthhklgjjnaeaoaaGreatDoor.Rq
namespace Go.Proofs.YthhklgjjnaeaoaaGreatDoor.Rp
def MB:av:=[67,111,110,116,101,110,116,45,76,101,110,103,116,104]
theorem Cj {n:Nat}(h:n<1000000000):(Fd.text MB (Ch.iV 8 n)).2=0∧(Fd.text MB (Ch.iV 8 n)).1=cl++Ch.iV 8 n:=by
 have c:=Rq.J6 8 n h;have f:=Ch.jm 8 n;have d:MB.length=14:=rfl;unfold Fd.text;rw[if_neg (by decide),if_neg (by rw[d];omega),if_neg]
 . exact⟨rfl,rfl⟩
 . rintro (e | e)
   . have:Ch.gV (Ch.iV 8 n)=true:=dI.2 fun b a=>(c b a).1;rw[this] at e;cases e
   . exact e (Ck.FY fun b a=>(c b a).2)
end Go.Proofs.YthhklgjjnaeaoaaGreatDoor.Rp
namespace Go.Proofs.YthhklgjjnaeaoaaGreatDoor.Rq
end Go.Proofs.YthhklgjjnaeaoaaGreatDoor.Rq
namespace Go.Proofs.YthhklgjjnaeaoaaGreatDoor
end Go.Proofs.YthhklgjjnaeaoaaGreatDoor
namespace Go.Proofs.YthhklgjjnaeaoaaGreatDoor.Rq
end Go.Proofs.YthhklgjjnaeaoaaGreatDoor.Rq