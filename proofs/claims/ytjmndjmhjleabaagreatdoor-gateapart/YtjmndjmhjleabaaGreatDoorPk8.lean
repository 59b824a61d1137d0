/- Small texts, one behind the other: PlainRB, PlainRC, PlainRD, PlainRE, PlainRF, PlainRK, PlainRpB, PlainRN. -/
import Derived.Test.YtjmndjmhjleabaaGreatDoorPlainRA
open Bool renaming false->F
namespace Go.Proofs.YtjmndjmhjleabaaGreatDoor.Rq
def Apart:List Ev->Prop
 | .body _::_=>False
 | _=>True
theorem GY {a:au}{r:List Ev}(h:Apart (join r)):join (.body a::r)=.body a::join r:=by
 rw[join];cases d:join r with
 | nil=>rfl
 | cons e q => cases e with
   | body b=>rw[d] at h;exact absurd h (fun h=>h)
   | head h=>rfl
   | fin=>rfl
   | fail c=>rfl
theorem GZ {a b:au}{r:List Ev}:join (.body a::.body b::r)=join (.body (a++b)::r):=by
 have e:∀x:au,join (.body x::r)=match join r with | .body y::q=>.body (x++y)::q | q=>.body x::q:=fun x=>by
  rw[join];cases join r with
  | nil=>rfl
  | cons e q=>cases e <;> rfl
 rw[join,e b,e (a++b)];cases d:join r with
 | nil=>rfl
 | cons e q => cases e with
   | body y=>simp
   | head h=>rfl
   | fin=>rfl
   | fail c=>rfl
def ones (l:au):List Ev:=l.map fun c=>.body [c]
theorem vU:∀(l:au) (a:au) (r:List Ev),join (.body a::(ones l++r))=join (.body (a++l)::r)
 | [],a,r=>by simp[ones]
 | c :: t, a, r => by
   have:=vU t (a++[c]) r;rw[dS] at this;rw[show ones (c::t)++r=.body [c]::(ones t++r) from rfl,GZ,this];rfl
theorem tV (l:au)(r:List Ev)(h:Apart (join r)):join (ones l++r)=some_ l++join r:=by
 cases l with
 | nil=>rfl
 | cons c t =>
   rw[show ones (c::t)++r=.body [c]::(ones t++r) from rfl,vU,GY h];rfl
theorem G5 (r:List Ev):Apart (join (.fin::r)):=trivial
theorem Nl (c:Nat)(r:List Ev):Apart (join (.fail c::r)):=trivial
theorem G6:Apart (join []):=trivial
theorem qO (h:Hd)(r:List Ev):join (.head h::r)=.head h::join r:=by rw[join]
theorem Dz (r:List Ev):join (.fin::r)=.fin::join r:=by rw[join]
theorem lS:∀(l:au) (s:St),s.ph=4->outs s l=[]∧fold s l=s
 | [],s,_=>⟨rfl,rfl⟩
 | c :: t, s, h => by
   have e:next s c=(s,[]):=by unfold next;rw[if_pos h]
   have a:=lS t s h;constructor
   . show(next s c).2++outs (next s c).1 t=[];rw[e];exact a.1
   . show fold (next s c).1 t=s;rw[e];exact a.2
structure nL (s:St):Prop where
 ph:s.ph=0∨s.ph=1
 ln:s.ln=Ln.start
theorem Qe {s:St}(h:s.ln=Ln.start):{ s with ln:=Ln.start }=s:=by
 cases s;simp only at h;subst h;rfl
theorem I9 {s:St}(h:nL s)(l:au):∀j,j<=l.length->((Ln.of l).size=0∨j<(Ln.of l).size) ->
 outs s (l.take j)=[]∧fold s (l.take j)={ s with ln:=Ln.fold Ln.start (l.take j) }
 | 0,_,_=>⟨rfl,(Qe h.ln).symm⟩
 | j + 1, g, i => by
   have a:j<l.length:=by omega
   obtain⟨b,c⟩:=I9 h l j (by omega) (by omega);obtain⟨d,f⟩:=Ln.Dh l j a (by omega);have k:=h.ph;have e:next { s with ln:=Ln.fold Ln.start (l.take j) } l[j]=({ s with ln:=Ln.next (Ln.fold Ln.start (l.take j)) l[j] },[]):=by
    unfold next;rw[if_neg (by show ¬s.ph=4;omega),if_neg (by show ¬s.ph=2;omega),if_neg (by show ¬s.ph=3;omega),if_neg (fun e=>e f),if_neg (by rw[d];simp)]
   rw[bN a,jE,jL,b,c,Ln.oI];constructor
   . show[]++((next { s with ln:=Ln.fold Ln.start (l.take j) } l[j]).2++[])=[];rw[e];rfl
   . show(next { s with ln:=Ln.fold Ln.start (l.take j) } l[j]).1=_;rw[e]
theorem G7 {s:St}(h:nL s)(l:au)(a:(Ln.of l).size=0):outs s l=[]∧fold s l={ s with ln:=Ln.fold Ln.start l }:=by
 have:=I9 h l l.length (aL _) (Or.inl a);rwa[bO] at this
theorem G8 {s:St}(h:nL s)(l:au)(u:0<(Ln.of l).size):
 ((Ln.of l).code≠0->outs s l=[.fail (Ln.of l).code]∧(fold s l).ph=4) ∧
 ((Ln.of l).code=0->outs s l=(line s (Ln.of l).text).2++outs (line s (Ln.of l).text).1 (l.drop (Ln.of l).size)∧fold s l=fold (line s (Ln.of l).text).1 (l.drop (Ln.of l).size)):=by
 obtain⟨j,k⟩:∃j,(Ln.of l).size=j+1:=⟨(Ln.of l).size-1,by omega⟩;have n:=Ln.of_le l;have c:j<l.length:=by omega
 have v:=h.ph;obtain⟨o,m⟩:=I9 h l j (by omega) (Or.inr (by omega));obtain⟨p,q,r⟩:=Ln.Gz l j c k.symm;have t:next { s with ln:=Ln.fold Ln.start (l.take j) } l[j]=if (Ln.of l).code≠0 then (dead { s with ln:=Ln.fold Ln.start (l.take j) },[.fail (Ln.of l).code]) else line s (Ln.of l).text:=by
  unfold next;rw[if_neg (by show ¬s.ph=4;omega),if_neg (by show ¬s.ph=2;omega),if_neg (by show ¬s.ph=3;omega)];show(if (Ln.next (Ln.fold Ln.start (l.take j)) l[j]).code≠0 then _ else if Ln.ends (Ln.fold Ln.start (l.take j)) l[j]=true then line { s with ln:=Ln.start } (Ln.text (Ln.fold Ln.start (l.take j)) l[j]) else _)=_;rw[q,p,r,Qe h.ln];by_cases b:(Ln.of l).code=0
  . have f:¬(Ln.of l).code≠0:=fun e=>e b;simp only[if_neg f];rcases Ln.CS l with d | d | d
    . omega
    . rw[if_pos d.2]
    . exact absurd b d.1
  . simp only[if_pos b]
 have a:l=l.take j++l[j]::l.drop (j+1):=by
  rw[<-aC c,bW]
 have g:outs s l=(next { s with ln:=Ln.fold Ln.start (l.take j) } l[j]).2++outs (next { s with ln:=Ln.fold Ln.start (l.take j) } l[j]).1 (l.drop (j+1)):=by
  conv=>lhs;rw[a,jE,o,m]
  rfl
 have i:fold s l=fold (next { s with ln:=Ln.fold Ln.start (l.take j) } l[j]).1 (l.drop (j+1)):=by
  conv=>lhs;rw[a,jL,m]
  rfl
 rw[g,i,t,k];constructor
 . intro b;rw[if_pos b];have:=lS (l.drop (j+1)) (dead { s with ln:=Ln.fold Ln.start (l.take j) }) rfl;exact⟨by rw[this.1];rfl,by rw[this.2];rfl⟩
 . intro b;rw[if_neg (fun e=>e b)];exact⟨rfl,rfl⟩
theorem sized:∀(k:Nat) (l:au) (s:St),s.ph=2->s.left=k+1 ->
 (l.length<k+1->outs s l=ones l∧(fold s l).ph=2) ∧
 (k+1<=l.length->outs s l=ones (l.take (k+1))++.fin::outs { s with ph:=0,left:=0 } (l.drop (k+1))∧fold s l=fold { s with ph:=0,left:=0 } (l.drop (k+1)))
 | k,[],s,h,_=>⟨fun _=>⟨rfl,h⟩,fun e=>by simp at e⟩
 | k, c :: t, s, h, hk => by
   cases k with
   | zero =>
     have e:next s c=({ s with ph:=0,left:=0 },[.body [c],.fin]):=by
      unfold next;rw[if_neg (by omega),if_pos h,if_pos (by omega)]
     refine⟨fun d=>by simp at d,fun _=>⟨?_,?_⟩⟩
     . show(next s c).2++outs (next s c).1 t=_;rw[e];rfl
     . show fold (next s c).1 t=_;rw[e];rfl
   | succ k =>
     have e:next s c=({ s with left:=k+1 },[.body [c]]):=by
      unfold next;rw[if_neg (by omega),if_pos h,if_neg (by omega),hk];rfl
     obtain⟨f,g⟩:=sized k t { s with left:=k+1 } h rfl;refine⟨fun d=>?_,fun d=>?_⟩
     . obtain⟨a,b⟩:=f (by simp at d;omega);constructor
       . show(next s c).2++outs (next s c).1 t=_;rw[e];show[Ev.body [c]]++outs { s with left:=k+1 } t=_
         rw[a];rfl
       . show(fold (next s c).1 t).ph=2;rw[e];exact b
     . obtain⟨a,b⟩:=g (by simp at d;omega);constructor
       . show(next s c).2++outs (next s c).1 t=_;rw[e];show[Ev.body [c]]++outs { s with left:=k+1 } t=_
         rw[a];rfl
       . show fold (next s c).1 t=_;rw[e];exact b
theorem Vt {s:Ck.St}{c:UInt8}(a:s.ph≠4)(b:s.code=0)(h:(Ck.next s c).ph=4):Ck.out s c=[]:=by
 unfold Ck.out;rw[if_neg];rintro ⟨_,d⟩;unfold Ck.next at h;rw[if_neg (fun e=>e b),if_neg a,if_pos d] at h;have:(if s.left<=1 then 2 else 1)=4:=h;split at this <;> omega
theorem Rm (l:au)(h:l.length<=1):some_ l=ones l:=by
 match l,h with
 | [],_=>rfl
 | [c],_=>rfl
theorem KA (a b:au):ones (a++b)=ones a++ones b:=by simp[ones]
theorem chunked:∀(l:au) (s:St),s.ph=3->s.ck.code=0->s.ck.ph≠4 ->
 ((Ck.run s.ck l).code≠0->outs s l=ones (Ck.run s.ck l).body++[.fail (Ck.run s.ck l).code]∧(fold s l).ph=4) ∧
 ((Ck.run s.ck l).code=0->(Ck.run s.ck l).over=true->∃f,f.ph=0∧f.ln=s.ln∧outs s l=ones (Ck.run s.ck l).body++.fin::outs f (l.drop (Ck.run s.ck l).used)∧fold s l=fold f (l.drop (Ck.run s.ck l).used)) ∧
 ((Ck.run s.ck l).code=0->(Ck.run s.ck l).over=F->outs s l=ones (Ck.run s.ck l).body∧(fold s l).ph=3)
 | [],s,h,_,_=>⟨fun e=>absurd rfl e,(fun _ e=>by cases e),fun _ _=>⟨rfl,h⟩⟩
 | c :: t, s, h, h0, h4 => by
   have o:Ck.run s.ck (c::t)=if (Ck.next s.ck c).code≠0 then ⟨Ck.out s.ck c,1,F,(Ck.next s.ck c).code⟩ else if (Ck.next s.ck c).ph=4 then ⟨Ck.out s.ck c,1,true,0⟩ else ⟨Ck.out s.ck c++(Ck.run (Ck.next s.ck c) t).body,1+(Ck.run (Ck.next s.ck c) t).used,(Ck.run (Ck.next s.ck c) t).over,(Ck.run (Ck.next s.ck c) t).code⟩:=by rw[Ck.run]
   have p:next s c=if (Ck.next s.ck c).code≠0 then (dead s,[.fail (Ck.next s.ck c).code]) else if (Ck.next s.ck c).ph=4 then ({ s with ph:=0 },[.fin]) else ({ s with ck:=Ck.next s.ck c },some_ (Ck.out s.ck c)):=by
    unfold next;rw[if_neg (by omega),if_neg (by omega),if_pos h]
   have q:outs s (c::t)=(next s c).2++outs (next s c).1 t:=rfl;have r:fold s (c::t)=fold (next s c).1 t:=rfl;rw[q,r,o,p];by_cases i:(Ck.next s.ck c).code=0
   . have k:¬(Ck.next s.ck c).code≠0:=fun e=>e i;simp only[if_neg k];by_cases j:(Ck.next s.ck c).ph=4
     . simp only[if_pos j];refine⟨fun e=>absurd rfl e,fun _ _=>⟨{ s with ph:=0 },rfl,rfl,?_,rfl⟩,fun _ e=>by cases e⟩;rw[Vt h4 h0 j];rfl
     . simp only[if_neg j];obtain⟨u,v,w⟩:=chunked t { s with ck:=Ck.next s.ck c } h i j;rw[Rm _ (Ck.Qd s.ck c),KA];refine⟨fun e=>?_,fun m n=>?_,fun m n=>?_⟩
       . obtain⟨a,b⟩:=u e;exact⟨by rw[a,dS],b⟩
       . obtain⟨f,a,b,d,g⟩:=v m n;refine⟨f,a,b,?_,?_⟩
         . rw[d,dS,Nat.add_comm 1,List.drop_succ_cons]
         . rw[g,Nat.add_comm 1,List.drop_succ_cons]
       . obtain⟨a,b⟩:=w m n;exact⟨by rw[a],b⟩
   . simp only[if_pos i];have:=lS t (dead s) rfl;refine⟨fun _=>⟨?_,by rw[this.2];rfl⟩,fun e=>absurd e i,fun e=>absurd e i⟩;rw[this.1,Ck.Vs i];rfl
def ad2 (s:St)(l:au):Fs->Prop
 | .fail c=>outs s l=[.fail c]∧(fold s l).ph=4
 | .open_=>outs s l=[]∧(fold s l).ph=1
 | .ok fs r=>∃s1:St,s1.ph=1∧s1.ln=Ln.start∧s1.hd={ s.hd with fields:=fs }∧outs s l=(line s1 []).2++outs (line s1 []).1 r∧fold s l=fold (line s1 []).1 r∧r.length<l.length
theorem DC:∀(f:Nat) (l:au) (s:St),l.length<f->nL s->s.ph=1->ad2 s l (rG f l s.hd.fields)
 | 0,l,s,p,_,_=>by omega
 | f + 1, l, s, p, h, m => by
   rw[rG];by_cases n:(Ln.of l).size=0
   . obtain⟨q,t⟩:=Ck.oW n;rw[if_neg (fun e=>e q),if_pos t];obtain⟨a,b⟩:=G7 h l n;exact⟨a,by rw[b];exact m⟩
   . have o:0<(Ln.of l).size:=by omega
     have u:=Ln.of_le l;obtain⟨v,w⟩:=G8 h l o;by_cases g:(Ln.of l).code=0
     . rw[if_neg (fun e=>e g),if_neg (by rw[Ck.zy o g];simp)];obtain⟨a,b⟩:=w g;by_cases k:(Ln.of l).text=[]
       . rw[if_pos k];rw[k] at a b;exact⟨s,m,h.ln,rfl,a,b,by rw[bU];omega⟩
       . rw[if_neg k];have x:line s (Ln.of l).text=if s.hd.fields.length=16 then (dead s,[.fail 8]) else if (Fd.of (Ln.of l).text).code≠0 then (dead s,[.fail (Fd.of (Ln.of l).text).code]) else ({ s with hd:={ s.hd with fields:=s.hd.fields++[((Fd.of (Ln.of l).text).name,(Fd.of (Ln.of l).text).value)] } },[]):=by
          unfold line;rw[if_neg (by omega),if_neg k]
         rw[x] at a b;by_cases i:s.hd.fields.length=16
         . rw[if_pos i] at a b ⊢;have:=lS (l.drop (Ln.of l).size) (dead s) rfl;exact⟨by rw[a,this.1];rfl,by rw[b,this.2];rfl⟩
         . rw[if_neg i] at a b ⊢;by_cases j:(Fd.of (Ln.of l).text).code=0
           . rw[if_neg (fun e=>e j)] at a b ⊢;have d:=DC f (l.drop (Ln.of l).size) { s with hd:={ s.hd with fields:=s.hd.fields++[((Fd.of (Ln.of l).text).name,(Fd.of (Ln.of l).text).value)] } } (by rw[bU];omega) ⟨h.ph,h.ln⟩ m;simp only at d;rw[dx] at a;revert d;generalize rG f (l.drop (Ln.of l).size) (s.hd.fields++[((Fd.of (Ln.of l).text).name,(Fd.of (Ln.of l).text).value)])=y;intro d;cases y with
             | fail c=>exact⟨a.trans d.1,by rw[b];exact d.2⟩
             | open_=>exact⟨a.trans d.1,by rw[b];exact d.2⟩
             | ok N r =>
               obtain⟨z,B,C,D,G,H,L⟩:=d;exact⟨z,B,C,D,a.trans G,b.trans H,by rw[bU] at L;omega⟩
           . rw[if_pos j] at a b ⊢;have:=lS (l.drop (Ln.of l).size) (dead s) rfl;exact⟨by rw[a,this.1];rfl,by rw[b,this.2];rfl⟩
     . rw[if_pos g];exact v g
theorem zA {t:au}{h:Hd}(e:first t=.inr h):h.fields=[]:=by
 unfold first at e;split at e
 . split at e
   . cases e
   . split at e
     . cases e
     . split at e
       . injection e with e;subst e;rfl
       . split at e
         . injection e with e;subst e;rfl
         . cases e
 . cases e
def failed (l:List Ev):Bool:=match l.getLast? with
 | some (.fail _)=>true
 | _=>F
theorem yL (x q:List Ev):failed (x++.fin::q)=failed q:=by
 unfold failed;rw[eZ];cases q with
 | nil=>rfl
 | cons e t =>
   rw[List.getLast?_cons_cons];cases h:(e::t).getLast? with
   | none=>simp at h
   | some y=>rfl
theorem KC (x:List Ev)(c:Nat):failed (x++[.fail c])=true:=by
 unfold failed;rw[eZ];rfl
theorem Bv (h:Hd)(l:au):failed (.head h::some_ l)=F:=by
 unfold some_;split <;> rfl
structure Bw (s:St)(l:au)(r:List Ev×Bool):Prop where
 ev:join (outs s l)=r.1
 busy:busy (fold s l)=r.2
 dead:decide ((fold s l).ph=4)=failed r.1
theorem Bw.fail {s:St}{l:au}{c:Nat}(h:outs s l=[.fail c]∧(fold s l).ph=4):Bw s l ([.fail c],F) :=
 ⟨by rw[h.1];rfl,by unfold Rq.busy;rw[if_pos h.2],by rw[h.2];rfl⟩
theorem Nn (l:au)(a:(Ln.of l).size=0):Ln.begun (Ln.fold Ln.start l)=decide (l≠[]):=by
 have:=Ln.xg l l.length (aL _) (Or.inl a);rw[bO] at this;rw[Ln.Nh,this.2.2];cases l <;> simp
theorem vT:∀(f:Nat) (l:au) (s:St),l.length<f->s.ph=0->s.ln=Ln.start->Bw s l (go f l)
 | 0,l,s,hf,_,_=>by omega
 | f + 1, l, s, hf, x, w => by
   have h:nL s:=⟨Or.inl x,w⟩;rw[go];by_cases O:(Ln.of l).size=0
   . obtain⟨e1,e2⟩:=Ck.oW O;rw[if_neg (fun e=>e e1),if_pos e2];obtain⟨a,b⟩:=G7 h l O;refine⟨by rw[a];rfl,?_,by rw[b];show decide (s.ph=4)=F;rw[x];rfl⟩;rw[b];unfold Rq.busy;rw[if_neg (by show ¬s.ph=4;omega),if_pos x];exact Nn l O
   . have hp:0<(Ln.of l).size:=by omega
     have hle:=Ln.of_le l;obtain⟨t1,t2⟩:=G8 h l hp;by_cases z:(Ln.of l).code=0
     . rw[if_neg (fun e=>e z),if_neg (by rw[Ck.zy hp z];simp)];obtain⟨a,b⟩:=t2 z;have P:(l.drop (Ln.of l).size).length=l.length-(Ln.of l).size:=bU;by_cases N:(Ln.of l).text=[]
       . rw[if_pos N];have S:line s (Ln.of l).text=(s,[]):=by unfold line;rw[if_pos x,if_pos N]
         rw[S] at a b;have n:=vT f (l.drop (Ln.of l).size) s (by omega) x w;exact⟨by rw[a];exact n.ev,by rw[b];exact n.busy,by rw[b];exact n.dead⟩
       . rw[if_neg N];have S:line s (Ln.of l).text=match first (Ln.of l).text with | .inl c=>(dead s,[.fail c]) | .inr h=>({ s with ph:=1,hd:=h },[]):=by
          unfold line;rw[if_pos x,if_neg N];cases first (Ln.of l).text <;> rfl
         rw[S] at a b;have B:∀h,first (Ln.of l).text=.inr h->h.fields=[]:=fun h e=>zA e;generalize first (Ln.of l).text=ac at a b B ⊢;generalize l.drop (Ln.of l).size=d at a b P ⊢;cases ac with
         | inl c =>
           have:=lS d (Rq.dead s) rfl;exact Bw.fail ⟨by rw[a];show[Ev.fail c]++outs (Rq.dead s) d=_;rw[this.1];rfl,by rw[b];show(fold (Rq.dead s) d).ph=4;rw[this.2];rfl⟩
         | inr hd =>
           simp only[dx] at a b ⊢;have m:=DC (f+1) d { s with ph:=1,hd:=hd } (by omega) ⟨Or.inr rfl,w⟩ rfl;simp only[B hd rfl] at m;generalize rG (f+1) d []=F2 at m ⊢;cases F2 with
           | fail c=>exact Bw.fail ⟨a.trans m.1,by rw[b];exact m.2⟩
           | open_ =>
             refine⟨by rw[a,m.1];rfl,?_,?_⟩
             . rw[b];unfold Rq.busy;rw[m.2];rfl
             . rw[b,m.2];rfl
           | ok T r =>
             obtain⟨g,p1,W,p3,p4,p5,p6⟩:=m;have C:line g []=match len g.hd with
              | .inl c=>(Rq.dead g,[.fail c])
              | .inr k=>if k=0 then ({ g with ph:=0 },[.head { g.hd with length:=k },.fin]) else if 0<k then ({ g with ph:=2,left:=k.toNat },[.head { g.hd with length:=k }]) else ({ g with ph:=3,ck:=Ck.start },[.head { g.hd with length:=k }]):=by
              unfold line;rw[if_neg (by omega),if_pos rfl];cases len g.hd <;> rfl
             have o:=a.trans p4;have i:=b.trans p5;simp only at p3;have hh:∀k,({ g.hd with length:=k }:Hd)={ hd with fields:=T,length:=k }:=fun k=>by rw[p3]
             have D:len g.hd=len { hd with fields:=T }:=by rw[p3]
             rw[D] at C;rw[C] at o i;simp only;generalize len { hd with fields:=T }=ae at o i ⊢;cases ae with
             | inl c =>
               have:=lS r (Rq.dead g) rfl;exact Bw.fail ⟨by rw[o];show[Ev.fail c]++outs (Rq.dead g) r=_;rw[this.1];rfl,by rw[i];show(fold (Rq.dead g) r).ph=4;rw[this.2];rfl⟩
             | inr k =>
               simp only[hh] at o i ⊢;by_cases hk:0<=k
               . rw[if_pos hk];by_cases G:k=0
                 . subst G;rw[if_pos rfl] at o i;rw[if_pos (show Int.toNat 0<=r.length from ay _)];have n:=vT f r { g with ph:=0 } (by omega) rfl W;refine⟨?_,by rw[i];exact n.busy,?_⟩
                   . rw[o];show join (.head _::.fin::outs { g with ph:=0 } r)=_;rw[qO,Dz,n.ev];rfl
                   . rw[i];refine n.dead.trans ?_;exact(yL [_] _).symm
                 . rw[if_neg G,if_pos (by omega)] at o i;obtain⟨j,hj⟩:∃j,k.toNat=j+1:=⟨k.toNat-1,by omega⟩;obtain⟨H,L⟩:=sized j r { g with ph:=2,left:=k.toNat } rfl hj;by_cases v:k.toNat<=r.length
                   . rw[if_pos v];obtain⟨t,p⟩:=L (by omega);have n:=vT f (r.drop (j+1)) { g with ph:=0,left:=0 } (by rw[bU];omega) rfl W;rw[hj];refine⟨?_,by rw[i,p];exact n.busy,?_⟩
                     . rw[o,t];show join (.head _::(ones (r.take (j+1))++.fin::outs { g with ph:=0,left:=0 } (r.drop (j+1))))=_;rw[qO,tV _ _ (G5 _),Dz,n.ev];rfl
                     . rw[i,p];refine n.dead.trans ?_;exact(yL (.head _::some_ (r.take (j+1))) _).symm
                   . rw[if_neg v];obtain⟨t,p⟩:=H (by omega);refine⟨?_,?_,?_⟩
                     . rw[o,t];show join (.head _::ones r)=_;have:=tV r [] G6;rw[bV,show join []=[] from rfl,bV] at this;rw[qO,this]
                     . rw[i];unfold Rq.busy;rw[p];rfl
                     . rw[i,p];exact(Bv _ _).symm
               . rw[if_neg hk];rw[if_neg (by omega),if_neg (by omega)] at o i;have y:=Ck.of_run r;obtain⟨H,L,z3⟩:=chunked r { g with ph:=3,ck:=Ck.start } rfl rfl (by show(0:Nat)≠4;omega);simp only at H L z3;rw[<-y.code,<-y.body] at H;rw[<-y.code,<-y.over,<-y.body] at L z3;by_cases q:(Ck.of r).code=0
                 . rw[if_neg (fun e=>e q)];cases u:(Ck.of r).over
                   . rw[if_pos rfl];obtain⟨t,p⟩:=z3 q u;refine⟨?_,?_,?_⟩
                     . rw[o,t];show join (.head _::ones (Ck.of r).body)=_;have:=tV (Ck.of r).body [] G6;rw[bV,show join []=[] from rfl,bV] at this;rw[qO,this]
                     . rw[i];unfold Rq.busy;rw[p];rfl
                     . rw[i,p];exact(Bv _ _).symm
                   . rw[if_neg (by simp)];obtain⟨s',t,p,y3,y4⟩:=L q u;rw[<-y.used (Or.inr u)] at y3 y4;have hu:=Ck.YQ r (Or.inr u);have n:=vT f (r.drop (Ck.of r).used) s' (by rw[bU];omega) t (p.trans W);refine⟨?_,by rw[i,y4];exact n.busy,?_⟩
                     . rw[o,y3];show join (.head _::(ones (Ck.of r).body++.fin::outs s' (r.drop (Ck.of r).used)))=_;rw[qO,tV _ _ (G5 _),Dz,n.ev];rfl
                     . rw[i,y4];refine n.dead.trans ?_;exact(yL (.head _::some_ (Ck.of r).body) _).symm
                 . rw[if_pos q];obtain⟨t,p⟩:=H q;refine⟨?_,?_,?_⟩
                   . rw[o,t];show join (.head _::(ones (Ck.of r).body++[.fail (Ck.of r).code]))=_;rw[qO,tV _ _ (Nl _ _)];rfl
                   . rw[i];unfold Rq.busy;rw[if_pos p]
                   . rw[i,p];exact(KC (.head _::some_ (Ck.of r).body) _).symm
     . rw[if_pos z];exact Bw.fail (t1 z)
theorem of_run (l:au):Bw start l (of l):=vT (l.length+1) l start (by omega) rfl rfl
def Joined:List Ev->Prop
 | []=>True
 | .body _::r=>Apart r∧Joined r
 | _::r=>Joined r
theorem mH:∀l:List Ev,Joined (join l)
 | []=>trivial
 | .head h::r=>by rw[join];exact mH r
 | .fin::r=>by rw[join];exact mH r
 | .fail c::r=>by rw[join];exact mH r
 | .body a :: r => by
   have d:=mH r;rw[join];cases f:join r with
   | nil=>exact⟨trivial,trivial⟩
   | cons e q =>
     rw[f] at d;cases e with
     | body b=>exact d
     | head h=>exact⟨trivial,d⟩
     | fin=>exact⟨trivial,d⟩
     | fail c=>exact⟨trivial,d⟩
theorem jk:∀l:List Ev,Joined l->join l=l
 | [],_=>rfl
 | .head h::r,k=>by rw[join,jk r k]
 | .fin::r,k=>by rw[join,jk r k]
 | .fail c::r,k=>by rw[join,jk r k]
 | .body a :: r, k => by
   have e:=jk r k.2;rw[GY (by rw[e];exact k.1),e]
theorem join_join (l:List Ev):join (join l)=join l:=jk _ (mH l)
theorem rH:∀(a b:List Ev),join (a++join b)=join (a++b)
 | [],b=>join_join b
 | .head h::r,b=>by rw[dY,dY,join,join,rH r b]
 | .fin::r,b=>by rw[dY,dY,join,join,rH r b]
 | .fail c::r,b=>by rw[dY,dY,join,join,rH r b]
 | .body x::r,b=>by rw[dY,dY,join,join,rH r b]
theorem join_cons (x:au)(l r:List Ev)(h:join l=join r):join (.body x::l)=join (.body x::r):=by rw[join,join,h]
theorem qP:∀(a b:List Ev),join (join a++b)=join (a++b)
 | [],b=>rfl
 | .head h::r,b=>by rw[join,dY,dY,join,join,qP r b]
 | .fin::r,b=>by rw[join,dY,dY,join,join,qP r b]
 | .fail c::r,b=>by rw[join,dY,dY,join,join,qP r b]
 | .body x :: r, b => by
   have d:=qP r b;have f:join (.body x::(join r++b))=join (.body x::(r++b)):=join_cons x _ _ d;rw[dY,<-f];have g:join (.body x::r)=match join r with | .body y::q=>.body (x++y)::q | q=>.body x::q:=by
    rw[join];cases join r with
    | nil=>rfl
    | cons e q=>cases e <;> rfl
   rw[g];cases join r with
   | nil=>rfl
   | cons e q => cases e with
     | body y =>
       show join (.body (x++y)::(q++b))=join (.body x::.body y::(q++b))
       rw[GZ]
     | head h=>rfl
     | fin=>rfl
     | fail c=>rfl
theorem Qi:∀(m w:au),(∀b∈m,b≠32)->cut w m=[w++m]
 | [],w,_=>by simp[cut]
 | c :: t, w, h => by
   rw[cut,if_neg (h c (cB ..)),Qi t (w++[c]) (fun b a=>h b (cK _ a))];simp
theorem DJ:∀(m w t:au),(∀b∈m,b≠32)->cut w (m++32::t)=(w++m)::cut [] t
 | [],w,t,_=>by simp[cut]
 | c :: m, w, t, h => by
   rw[dY,cut,if_neg (h c (cB ..)),DJ m (w++[c]) t (fun b a=>h b (cK _ a))];simp
theorem VD:∀(f n:Nat),n<10 ^ (f+1)->∀b∈Ch.jG f n,Ch.visible b.toNat=true∧Ch.ws.contains b=F:=by
 have c:∀j,j<10->∀b∈Ch.jG 0 j,Ch.visible b.toNat=true∧Ch.ws.contains b=F:=fun j d=>(show ∀j:Fin 10,∀b∈Ch.jG 0 j.val,Ch.visible b.toNat=true∧Ch.ws.contains b=F by decide +kernel) ⟨j,d⟩;intro f;induction f with
 | zero=>intro n h b a;exact c n (by simpa using h) b a
 | succ f e =>
   intro n h b a;unfold Ch.jG at a;split at a
   . rename_i g;exact c n g b a
   . rw[bA] at a;rcases a with a | a
     . exact e (n / 10) (by rw[Nat.pow_succ] at h;omega) b a
     . exact c (n % 10) (by omega) b a
def qh:List Ev->Bool
 | []=>F
 | [.body _]=>true
 | _::r=>qh r
def Ev.uH:Ev->Bool
 | .body _=>true
 | _=>F
theorem pK:∀(l:List Ev) (e:Ev),Joined l->(e.uH=true->qh l=F)->Joined (l++[e])
 | [],e,_,_=>by cases e <;> first | exact trivial | exact⟨trivial,trivial⟩
 | [x], e, c, h => by
   cases x with
   | body a =>
     cases e with
     | body b=>exact absurd (h rfl) (by simp[qh])
     | head _=>exact⟨trivial,trivial⟩
     | fin=>exact⟨trivial,trivial⟩
     | fail _=>exact⟨trivial,trivial⟩
   | head _=>cases e <;> first | exact trivial | exact⟨trivial,trivial⟩
   | fin=>cases e <;> first | exact trivial | exact⟨trivial,trivial⟩
   | fail _=>cases e <;> first | exact trivial | exact⟨trivial,trivial⟩
 | x :: y :: r, e, c, h => by
   have d:e.uH=true->qh (y::r)=F:=fun k=>by
    have:=h k;cases x <;> exact this
   cases x with
   | body a=>exact⟨by have:=c.1;cases y <;> exact this,pK (y::r) e c.2 d⟩
   | head _=>exact pK (y::r) e c d
   | fin=>exact pK (y::r) e c d
   | fail _=>exact pK (y::r) e c d
theorem Nv {l:List Ev}{e:Ev}(a:Joined l)(h:e.uH=true->qh l=F):join (l++[e])=l++[e]:=jk _ (pK l e a h)
theorem pO:∀(l:List Ev) (a b:au),Joined (l++[.body a])->Joined (l++[.body b])
 | [],_,_,h=>h
 | [.body x],_,_,h=>absurd h.1 (fun k=>k)
 | .body x::y::r,a,b,h=>⟨by have:=h.1;cases y <;> exact this,pO (y::r) a b h.2⟩
 | .head _::r,a,b,h=>pO r a b h
 | .fin::r,a,b,h=>pO r a b h
 | .fail _::r,a,b,h=>pO r a b h
theorem KI {l:List Ev}{a b:au}(h:Joined (l++[.body a])):join (l++[.body a]++[.body b])=l++[.body (a++b)]:=by
 rw[dS,<-rH];exact jk _ (pO l a (a++b) h)
theorem BF:∀(l:List Ev) (e:Ev),qh (l++[e])=e.uH
 | [],e=>by cases e <;> rfl
 | x::[],e=>by cases x <;> cases e <;> rfl
 | x :: y :: r, e => by
   have:=BF (y::r) e;cases x <;> exact this
theorem zF:∀(l:List Ev),qh l=true->∃q a,l=q++[.body a]
 | [],h=>by cases h
 | [x], h => by
   cases x with
   | body a=>exact⟨[],a,rfl⟩
   | head _=>cases h
   | fin=>cases h
   | fail _=>cases h
 | x :: y :: r, h => by
   have:qh (y::r)=true:=by cases x <;> exact h
   obtain⟨q,a,e⟩:=zF (y::r) this;exact⟨x::q,a,by rw[e];rfl⟩
theorem KJ (l a b:List Ev):join (join (l++a)++b)=join (l++(a++b)):=by rw[qP,dS]
theorem AL (s:St)(l:au)(c:UInt8):outs s (l++[c])=outs s l++(next (fold s l) c).2:=by
 rw[jE];show _++((next (fold s l) c).2++[])=_;rw[bV]
theorem oI (s:St)(l:au)(c:UInt8):fold s (l++[c])=(next (fold s l) c).1:=by rw[jL];rfl
structure nG (h:Hd):Prop where
 method:h.method.length<=200
 target:h.target.length<=200
 minor:h.minor<=1
 many:h.fields.length<=16
 fields:∀f∈h.fields,f.1.length<=200∧f.2.length<=200
structure Good (s:St):Prop where
 ph:s.ph<=4
 ln:Ln.Good s.ln
 lc:s.ln.code=0
 hd:s.ph=1->nG s.hd∧s.hd.length=0
 left:s.ph=2->0<s.left∧s.left<=4000
 ck:s.ph=3->Ck.Good s.ck∧s.ck.code=0∧s.ck.ph≠4
def Ev.uI:Ev->Prop
 | .head h=>nG h
 | _=>True
theorem Good.start:Good start:=⟨ay _,Ln.Good.start,rfl,(fun h=>by cases h),(fun h=>by cases h),(fun h=>by cases h)⟩
theorem Jc:∀(t w:au),(cut w t).length=t.count 32+1
 | [],w=>rfl
 | c :: t, w => by
   rw[cut];by_cases h:c=32
   . subst h;rw[if_pos rfl,aW,Jc t [],List.count_cons_self]
   . rw[if_neg h,Jc t,List.count_cons_of_ne (by simpa using h)]
theorem DK {c:UInt8}{t:au}(h:Fd.at_ c t<t.length):t=t.take (Fd.at_ c t)++c::t.drop (Fd.at_ c t+1):=by
 conv=>lhs;rw[<-bW (Fd.at_ c t) t,aC h,Fd.CU h]
theorem free_at {c:UInt8}{t:au}:∀b∈t.take (Fd.at_ c t),b≠c:=by
 intro b a;obtain⟨j,d,rfl⟩:=List.mem_iff_getElem.1 a;rw[bX] at d;rw[List.getElem_take];exact Fd.Dj (by omega) (by omega)
theorem KL {c:UInt8}{t:au}(h:0<t.count c):Fd.at_ c t<t.length:=by
 rcases aT (Fd.at_ c t) t.length with g | g
 . exact g
 . have:=free_at (c:=c) (t:=t);rw[dN g] at this;have a:t.count c=0:=List.count_eq_zero.2 (fun k=>this c k rfl);omega
theorem DL {c:UInt8}{t:au}(h:Fd.at_ c t<t.length):t.count c=(t.drop (Fd.at_ c t+1)).count c+1:=by
 conv=>lhs;rw[DK h]
 rw[List.count_append,List.count_cons_self,List.count_eq_zero.2 (fun k=>free_at c k rfl)];omega
theorem Hl {t:au}(h:t.count 32=2):Fd.at_ 32 t<t.length∧Fd.at_ 32 (t.drop (Fd.at_ 32 t+1))<(t.drop (Fd.at_ 32 t+1)).length ∧
 cut [] t=[t.take (Fd.at_ 32 t),(t.drop (Fd.at_ 32 t+1)).take (Fd.at_ 32 (t.drop (Fd.at_ 32 t+1))),(t.drop (Fd.at_ 32 t+1)).drop (Fd.at_ 32 (t.drop (Fd.at_ 32 t+1))+1)]:=by
 have a:=KL (c:=32) (t:=t) (by omega);have k:=DL a;have d:=KL (c:=32) (t:=t.drop (Fd.at_ 32 t+1)) (by omega);have l:=DL d;refine⟨a,d,?_⟩;have g:=DK a;have f:=DK d;have i:∀b∈(t.drop (Fd.at_ 32 t+1)).drop (Fd.at_ 32 (t.drop (Fd.at_ 32 t+1))+1),b≠32:=fun b j e=>by
  have:0<((t.drop (Fd.at_ 32 t+1)).drop (Fd.at_ 32 (t.drop (Fd.at_ 32 t+1))+1)).count 32:=List.count_pos_iff.2 (e▸j);omega
 conv=>lhs;rw[g]
 rw[DJ _ [] _ free_at,f,DJ _ [] _ free_at,Qi _ [] i];simp only[dx];rw[<-f]
theorem KM {t:au}(h:t.count 32≠2):first t=.inl 5:=by
 have:=Jc t [];unfold first;split
 . rename_i e;rw[e] at this;simp at this;omega
 . rfl
def Jd (m g v:au):Nat ⊕ Hd :=
 if Ch.isToken m=F then .inl 6
 else if g.head?≠some 47∨9∈g then .inl 5
 else if v=[72,84,84,80,47,49,46,49] then .inr ⟨m,g,1,[],0⟩
 else if v=[72,84,84,80,47,49,46,48] then .inr ⟨m,g,0,[],0⟩
 else .inl 11
theorem BG {t:au}(h:t.count 32=2):first t=Jd (t.take (Fd.at_ 32 t)) ((t.drop (Fd.at_ 32 t+1)).take (Fd.at_ 32 (t.drop (Fd.at_ 32 t+1)))) ((t.drop (Fd.at_ 32 t+1)).drop (Fd.at_ 32 (t.drop (Fd.at_ 32 t+1))+1)):=by
 unfold first;rw[(Hl h).2.2];rfl
theorem DN {t:au}{h:Hd}(g:t.length<=200)(e:first t=.inr h):nG h∧h.length=0:=by
 by_cases b:t.count 32=2
 . rw[BG b] at e;unfold Jd at e;have c:(t.take (Fd.at_ 32 t)).length<=200:=by rw[bX];omega
   have d:((t.drop (Fd.at_ 32 t+1)).take (Fd.at_ 32 (t.drop (Fd.at_ 32 t+1)))).length<=200:=by rw[bX,bU];omega
   split at e
   . cases e
   . split at e
     . cases e
     . split at e
       . injection e with e;subst e;exact⟨⟨c,d,aL _,ay _,fun f a=>by cases a⟩,rfl⟩
       . split at e
         . injection e with e;subst e;exact⟨⟨c,d,ay _,ay _,fun f a=>by cases a⟩,rfl⟩
         . cases e
 . rw[KM b] at e;cases e
theorem KN:∀(f:au) (l:List (au)) (n k:Int),0<=n->sizes f n l=.inr k->0<=k
 | f,[],n,k,c,e=>by injection e with e;omega
 | f, v :: t, n, k, c, e => by
   rw[sizes] at e;split at e
   . cases e
   . split at e
     . cases e
     . refine KN f t _ k ?_ e;have:(Ch.number 10 9 v).1=0∨(Ch.number 10 9 v).1=Ch.numOf 10 v∧v.all (Ch.xZ 10)=true∧v.length<=9:=by
        by_cases b:v=[]∨(9:Int)<v.length
        . rw[Ch.lG 10 9 v b];exact Or.inl rfl
        . cases a:v.all (Ch.xZ 10)
          . rw[Ch.tN 10 9 v a];exact Or.inl rfl
          . rw[Ch.rF 10 9 v (fun e=>b (Or.inl e)) (fun e=>b (Or.inr e)) a];exact Or.inr ⟨rfl,rfl,by omega⟩
       rcases this with g | ⟨g,a,d⟩
       . omega
       . rw[g];exact(Ch.mG 10 (by omega) (by omega) v a d).1
theorem xC {h:Hd}{k:Int}(e:len h=.inr k):k=-1∨0<=k∧k<=4000:=by
 unfold len at e;split at e
 . cases e
 . split at e
   . split at e
     . cases e
     . split at e
       . cases e
       . injection e with e;exact Or.inl e.symm
   . split at e
     . cases e
     . rename_i n a;split at e
       . cases e
       . injection e with e;subst e;exact Or.inr ⟨KN _ _ 0 _ (by omega) a,by omega⟩
theorem Good.dead {s:St}(h:Good s):Good (dead s):=⟨aL _,h.ln,h.lc,(fun e=>by cases e),(fun e=>by cases e),(fun e=>by cases e)⟩
theorem Good.line {s:St}(h:Good s)(r:s.ph=0∨s.ph=1)(t:au)(i:t.length<=200):Good (line s t).1∧∀e∈(line s t).2,e.uI:=by
 unfold Rq.line;by_cases m:s.ph=0
 . rw[if_pos m];by_cases g:t=[]
   . rw[if_pos g];exact⟨h,fun e a=>by cases a⟩
   . rw[if_neg g];cases d:first t with
     | inl c=>exact⟨h.dead,fun e a=>by simp at a;subst a;exact trivial⟩
     | inr u=>exact⟨⟨by show 1<=4;omega,h.ln,h.lc,fun _=>DN i d,(fun e=>by cases e),(fun e=>by cases e)⟩,fun e a=>by cases a⟩
 . rw[if_neg m];obtain⟨b,j⟩:=h.hd (by omega);have l:∀k:Int,nG { s.hd with length:=k }:=fun k=>⟨b.method,b.target,b.minor,b.many,b.fields⟩;by_cases g:t=[]
   . rw[if_pos g];cases p:len s.hd with
     | inl c=>exact⟨h.dead,fun e a=>by simp at a;subst a;exact trivial⟩
     | inr k =>
       have v:=xC p;simp only;by_cases n:k=0
       . rw[if_pos n];refine⟨⟨ay _,h.ln,h.lc,(fun e=>by cases e),(fun e=>by cases e),(fun e=>by cases e)⟩,fun e a=>?_⟩;simp at a;rcases a with rfl | rfl
         . exact l k
         . exact trivial
       . rw[if_neg n];by_cases o:0<k
         . rw[if_pos o];refine⟨⟨by show 2<=4;omega,h.ln,h.lc,(fun e=>by cases e),fun _=>⟨by show 0<k.toNat;omega,by show k.toNat<=4000;omega⟩,(fun e=>by cases e)⟩,fun e a=>?_⟩;simp at a;subst a;exact l k
         . rw[if_neg o];refine⟨⟨by show 3<=4;omega,h.ln,h.lc,(fun e=>by cases e),(fun e=>by cases e),fun _=>⟨Ck.Good.start,rfl,by show(0:Nat)≠4;omega⟩⟩,fun e a=>?_⟩;simp at a;subst a;exact l k
   . rw[if_neg g];split
     . exact⟨h.dead,fun e a=>by simp at a;subst a;exact trivial⟩
     . rename_i q;split
       . exact⟨h.dead,fun e a=>by simp at a;subst a;exact trivial⟩
       . have:=Fd.AO t;refine⟨⟨h.ph,h.ln,h.lc,fun _=>⟨⟨b.method,b.target,b.minor,?_,fun f d=>?_⟩,j⟩,h.left,h.ck⟩,fun e a=>by cases a⟩
         . have:=b.many;show(s.hd.fields++[((Fd.of t).name,(Fd.of t).value)]).length<=16;rw[aV];simp;omega
         . rcases bA.1 d with d | d
           . exact b.fields f d
           . simp at d;subst d;exact⟨dF this.1 i,dF this.2 i⟩
theorem uJ {s:Ln.St}{c:UInt8}(h:Ln.Good s):(Ln.text s c).length<=200∧∀b∈Ln.text s c,Ch.visible b.toNat=true:=by
 unfold Ln.text;split
 . exact⟨h.short,h.seen⟩
 . exact⟨ay _,fun b a=>by cases a⟩
theorem Good.next {s:St}(h:Good s)(c:UInt8):Good (next s c).1∧∀e∈(next s c).2,e.uI:=by
 have g:Good { s with ph:=0 }:=⟨ay _,h.ln,h.lc,(fun e=>by cases e),(fun e=>by cases e),(fun e=>by cases e)⟩;unfold Rq.next;split
 . exact⟨h,fun e b=>by cases b⟩
 . split
   . rename_i d;obtain⟨l,m⟩:=h.left d;split
     . refine⟨⟨ay _,h.ln,h.lc,(fun e=>by cases e),(fun e=>by cases e),(fun e=>by cases e)⟩,fun e b=>?_⟩;simp at b;rcases b with rfl | rfl <;> exact trivial
     . refine⟨⟨h.ph,h.ln,h.lc,h.hd,fun _=>⟨by show 0<s.left-1;omega,by show s.left-1<=4000;omega⟩,h.ck⟩,fun e b=>?_⟩;simp at b;subst b;exact trivial
   . split
     . rename_i f;obtain⟨i,n,o⟩:=h.ck f;split
       . exact⟨h.dead,fun e b=>by simp at b;subst b;exact trivial⟩
       . split
         . exact⟨g,fun e b=>by simp at b;subst b;exact trivial⟩
         . rename_i p j;refine⟨⟨h.ph,h.ln,h.lc,h.hd,h.left,fun _=>⟨i.next c,by show(Ck.next s.ck c).code=0;omega,j⟩⟩,fun e b=>?_⟩;unfold some_ at b;split at b
           . cases b
           . simp at b;subst b;exact trivial
     . rename_i q d f;have r:=h.ph;split
       . exact⟨h.dead,fun e b=>by simp at b;subst b;exact trivial⟩
       . split
         . have k:Good { s with ln:=Ln.start }:=⟨h.ph,Ln.Good.start,rfl,h.hd,h.left,h.ck⟩;exact k.line (by show s.ph=0∨s.ph=1;omega) _ (uJ h.ln).1
         . exact⟨⟨h.ph,Ln.tQ h.ln,by rename_i a _;show(Ln.next s.ln c).code=0;omega,h.hd,h.left,h.ck⟩,fun e b=>by cases b⟩
theorem Good.fold:∀(l:au) {s:St},Good s->Good (fold s l)
 | [],_,h=>h
 | c::t,s,h=>Good.fold t (s:=(Rq.next s c).1) (h.next c).1
theorem qR:∀(l:au) {s:St},Good s->∀e∈outs s l,e.uI
 | [],_,_=>fun e a=>by cases a
 | c :: t, s, h => fun e a => by
   rcases bA.1 a with a | a
   . exact(h.next c).2 e a
   . exact qR t (h.next c).1 e a
theorem oL:∀(l:List Ev),(∀e∈l,e.uI)->∀e∈join l,e.uI
 | [],_=>fun e d=>by cases d
 | .head h :: r, k => fun e d => by
   rw[join] at d;rcases fA.1 d with rfl | d
   . exact k _ (cB ..)
   . exact oL r (fun x f=>k x (cK _ f)) e d
 | .fin :: r, k => fun e d => by
   rw[join] at d;rcases fA.1 d with rfl | d
   . exact trivial
   . exact oL r (fun x f=>k x (cK _ f)) e d
 | .fail c :: r, k => fun e d => by
   rw[join] at d;rcases fA.1 d with rfl | d
   . exact trivial
   . exact oL r (fun x f=>k x (cK _ f)) e d
 | .body a :: r, k => fun e d => by
   have g:=oL r (fun x f=>k x (cK _ f));rw[join] at d;cases i:join r with
   | nil=>rw[i] at d;simp at d;subst d;exact trivial
   | cons y q =>
     rw[i] at d g;cases y with
     | body b =>
       rcases fA.1 d with rfl | d
       . exact trivial
       . exact g e (cK _ d)
     | head h =>
       rcases fA.1 d with rfl | d
       . exact trivial
       . exact g e d
     | fin =>
       rcases fA.1 d with rfl | d
       . exact trivial
       . exact g e d
     | fail c =>
       rcases fA.1 d with rfl | d
       . exact trivial
       . exact g e d
def jD:List Ev->Nat
 | []=>0
 | .body a::r=>a.length+jD r
 | _::r=>jD r
def Full (l:List Ev):Prop:=∀a,Ev.body a∈l->a≠[]
theorem mM:∀a b:List Ev,jD (a++b)=jD a+jD b
 | [],b=>by simp[jD]
 | .body x::r,b=>by rw[dY,jD,jD,mM r b];omega
 | .head _::r,b=>mM r b
 | .fin::r,b=>mM r b
 | .fail _::r,b=>mM r b
theorem qV:∀l:List Ev,jD (join l)=jD l
 | []=>rfl
 | .head _::r=>by rw[join];exact qV r
 | .fin::r=>by rw[join];exact qV r
 | .fail _::r=>by rw[join];exact qV r
 | .body a :: r => by
   have c:=qV r;rw[join];cases d:join r with
   | nil=>rw[d] at c;simp only[jD] at c ⊢;omega
   | cons e q =>
     rw[d] at c;cases e with
     | body b=>simp only[jD,aV] at c ⊢;omega
     | head _=>simp only[jD] at c ⊢;omega
     | fin=>simp only[jD] at c ⊢;omega
     | fail _=>simp only[jD] at c ⊢;omega
theorem join_length:∀l:List Ev,(join l).length<=l.length
 | []=>aL _
 | .head _::r=>by rw[join,aW,aW];have:=join_length r;omega
 | .fin::r=>by rw[join,aW,aW];have:=join_length r;omega
 | .fail _::r=>by rw[join,aW,aW];have:=join_length r;omega
 | .body a :: r => by
   have b:=join_length r;rw[join];cases c:join r with
   | nil=>rw[c] at b;simp only[aW,bZ] at b ⊢;omega
   | cons e q =>
     rw[c] at b;cases e <;> simp only[aW] at b ⊢ <;> omega
theorem qW:∀l:List Ev,Full l->Full (join l)
 | [],h=>h
 | .head _ :: r, h => by
   have d:=qW r (fun a ha=>h a (cK _ ha));rw[join];intro a ha;rcases fA.1 ha with ha | ha
   . cases ha
   . exact d a ha
 | .fin :: r, h => by
   have d:=qW r (fun a ha=>h a (cK _ ha));rw[join];intro a ha;rcases fA.1 ha with ha | ha
   . cases ha
   . exact d a ha
 | .fail _ :: r, h => by
   have d:=qW r (fun a ha=>h a (cK _ ha));rw[join];intro a ha;rcases fA.1 ha with ha | ha
   . cases ha
   . exact d a ha
 | .body x :: r, h => by
   have d:=qW r (fun a ha=>h a (cK _ ha));have f:x≠[]:=h x (cB ..);rw[join];cases g:join r with
   | nil =>
     intro a ha;simp at ha;subst ha;exact f
   | cons e q =>
     rw[g] at d;have c:∀a,Ev.body a∈Ev.body x::e::q->a≠[]:=fun a ha=>by
      rcases fA.1 ha with ha | ha
      . injection ha with ha;subst ha;exact f
      . exact d a ha
     cases e with
     | body b =>
       intro a ha;rcases fA.1 ha with ha | ha
       . injection ha with ha;subst ha;simp[f]
       . exact d a (cK _ ha)
     | head _=>exact c
     | fin=>exact c
     | fail _=>exact c
theorem BM {a b:List Ev}(h:Full a)(k:Full b):Full (a++b):=fun x c=>by
 rcases bA.1 c with c | c
 . exact h x c
 . exact k x c
theorem V9 (s:St)(t:au):(line s t).2.length<=2∧jD (line s t).2=0∧Full (line s t).2:=by
 have b:∀c,([Ev.fail c]:List Ev).length<=2∧jD [Ev.fail c]=0∧Full [Ev.fail c]:=fun c=>⟨by simp,rfl,fun a ha=>by simp at ha⟩;have d:([]:List Ev).length<=2∧jD []=0∧Full []:=⟨by simp,rfl,fun a ha=>by cases ha⟩;unfold line;split
 . split
   . exact d
   . split
     . exact b _
     . exact d
 . split
   . split
     . exact b _
     . split
       . exact⟨by simp,rfl,fun a ha=>by simp at ha⟩
       . split
         . exact⟨by simp,rfl,fun a ha=>by simp at ha⟩
         . exact⟨by simp,rfl,fun a ha=>by simp at ha⟩
   . split
     . exact b _
     . split
       . exact b _
       . exact d
theorem Wd (s:St)(c:UInt8):(next s c).2.length<=2∧jD (next s c).2<=1∧Full (next s c).2:=by
 have e:∀c,([Ev.fail c]:List Ev).length<=2∧jD [Ev.fail c]<=1∧Full [Ev.fail c]:=fun c=>⟨by simp,ay _,fun a ha=>by simp at ha⟩;have b:([]:List Ev).length<=2∧jD []<=1∧Full []:=⟨by simp,ay _,fun a ha=>by cases ha⟩;unfold next;split
 . exact b
 . split
   . split
     . exact⟨by simp,by simp[jD],fun a ha=>by simp at ha;subst ha;simp⟩
     . exact⟨by simp,by simp[jD],fun a ha=>by simp at ha;subst ha;simp⟩
   . split
     . split
       . exact e _
       . split
         . exact⟨by simp,ay _,fun a ha=>by simp at ha⟩
         . have:=Ck.Qd s.ck c;unfold some_;split
           . exact b
           . rename_i d;exact⟨by simp,by simp only[jD];omega,fun a ha=>by simp at ha;subst ha;exact d⟩
     . split
       . exact e _
       . split
         . have:=V9 { s with ln:=Ln.start } (Ln.text s.ln c);exact⟨this.1,by omega,this.2.2⟩
         . exact b
theorem nH:∀(l:au) (s:St),(outs s l).length<=2*l.length∧jD (outs s l)<=l.length∧Full (outs s l)
 | [],s=>⟨by simp[outs],by simp[outs,jD],fun a ha=>by cases ha⟩
 | c :: t, s => by
   have b:=Wd s c;have d:=nH t (next s c).1;rw[outs,aV,mM,aW];exact⟨by omega,by omega,BM b.2.2 d.2.2⟩
theorem Qv (s:St)(l:au):(join (outs s l)).length<=2*l.length∧jD (join (outs s l))<=l.length∧Full (join (outs s l))∧Joined (join (outs s l)):=by
 have h:=nH l s;have a:=join_length (outs s l);exact⟨by omega,by rw[qV];exact h.2.1,qW _ h.2.2,mH _⟩
end Go.Proofs.YtjmndjmhjleabaaGreatDoor.Rq
namespace Go.Proofs.YtjmndjmhjleabaaGreatDoor.Rp
def nCL:au:=[67,111,110,116,101,110,116,45,76,101,110,103,116,104]
theorem QG {n:Nat}(h:n<1000000000):(Fd.text nCL (Ch.jG 8 n)).2=0∧(Fd.text nCL (Ch.jG 8 n)).1=cl++Ch.jG 8 n:=by
 have c:=Rq.VD 8 n h;have f:=Ch.jW 8 n;have d:nCL.length=14:=rfl;unfold Fd.text;rw[if_neg (by decide),if_neg (by rw[d];omega),if_neg]
 . exact⟨rfl,rfl⟩
 . rintro (e | e)
   . have:Ch.iw (Ch.jG 8 n)=true:=dM.2 fun b a=>(c b a).1;rw[this] at e;cases e
   . exact e (Ck.Rl fun b a=>(c b a).2)
end Go.Proofs.YtjmndjmhjleabaaGreatDoor.Rp
namespace Go.Proofs.YtjmndjmhjleabaaGreatDoor
theorem Ln.Ct (l:au):∀(t:au) (i:Nat),i<=200->(Ln.go l i t).text.length<=200
 | [],i,_=>ay _
 | c :: t, i, hi => by
   unfold Ln.go;split
   . split
     . exact ay _
     . split
       . show(l.take i).length<=200;rw[bX];omega
       . exact ay _
   . split
     . exact ay _
     . split
       . exact ay _
       . split
         . exact ay _
         . exact Ln.Ct l t (i+1) (by omega)
theorem Ln.Cu (l:au):(Ln.of l).text.length<=200:=Ln.Ct l l 0 (by omega)
theorem Ck.FE:∀(f:Nat) (l:au) (n:Nat),(Ck.trail f l n).used<=l.length
 | 0,_,_=>ay _
 | f + 1, l, n => by
   have a:=Ln.of_le l;unfold Ck.trail;split
   . exact a
   . split
     . exact a
     . split
       . exact a
       . split
         . exact a
         . have:=Ck.FE f (l.drop (Ln.of l).size) (n+1);rw[bU] at this;show(Ln.of l).size+(Ck.trail f (l.drop (Ln.of l).size) (n+1)).used<=l.length;omega
theorem Ck.Q7:∀(f:Nat) (l:au) (n:Nat),(Ck.go f l n).used<=l.length
 | 0,_,_=>ay _
 | f + 1, l, n => by
   have a:=Ln.of_le l;unfold Ck.go;split
   . exact a
   . split
     . exact a
     . split
       . exact a
       . split
         . have:=Ck.FE (f+1) (l.drop (Ln.of l).size) 0;rw[bU] at this;show(Ln.of l).size+(Ck.trail (f+1) (l.drop (Ln.of l).size) 0).used<=l.length;omega
         . have d:(l.drop (Ln.of l).size).length=l.length-(Ln.of l).size:=bU;simp only;split
           . show(Ln.of l).size+(l.drop (Ln.of l).size).length<=l.length;omega
           . rename_i e;have b:=Ln.of_le ((l.drop (Ln.of l).size).drop (Ck.size (Ln.of l).text).1.toNat);rw[bU] at b;split
             . show(Ln.of l).size+(Ck.size (Ln.of l).text).1.toNat+(Ln.of ((l.drop (Ln.of l).size).drop (Ck.size (Ln.of l).text).1.toNat)).size<=l.length;omega
             . split
               . show(Ln.of l).size+(Ck.size (Ln.of l).text).1.toNat+(Ln.of ((l.drop (Ln.of l).size).drop (Ck.size (Ln.of l).text).1.toNat)).size<=l.length;omega
               . have c:=Ck.Q7 f (((l.drop (Ln.of l).size).drop (Ck.size (Ln.of l).text).1.toNat).drop (Ln.of ((l.drop (Ln.of l).size).drop (Ck.size (Ln.of l).text).1.toNat)).size) (n+(Ck.size (Ln.of l).text).1.toNat);rw[bU,bU] at c;show(Ln.of l).size+(Ck.size (Ln.of l).text).1.toNat+(Ln.of ((l.drop (Ln.of l).size).drop (Ck.size (Ln.of l).text).1.toNat)).size+(Ck.go f _ _).used<=l.length;omega
theorem Ck.Q8 (l:au):(Ck.of l).used<=l.length:=Ck.Q7 _ l 0
end Go.Proofs.YtjmndjmhjleabaaGreatDoor
namespace Go.Proofs.YtjmndjmhjleabaaGreatDoor.Rq
theorem PO {t:au}{c:Nat}(h:first t=.inl c):c≠0:=by
 unfold first at h;split at h
 . split at h
   . injection h with h;omega
   . split at h
     . injection h with h;omega
     . split at h
       . cases h
       . split at h
         . cases h
         . injection h with h;omega
 . injection h with h;omega
theorem nG.more {h:Hd}(b:nG h)(t:au)(c:t.length<=200)(d:h.fields.length≠16):nG { h with fields:=h.fields++[((Fd.of t).name,(Fd.of t).value)] }:=by
 have:=Fd.AO t;refine⟨b.method,b.target,b.minor,?_,fun f a=>?_⟩
 . have:=b.many;show(h.fields++[((Fd.of t).name,(Fd.of t).value)]).length<=16;rw[aV];simp;omega
 . rcases bA.1 a with a | a
   . exact b.fields f a
   . simp at a;subst a;exact⟨dF this.1 c,dF this.2 c⟩
def rest (f:Nat)(r:au)(over:Bool)(c:Nat):List Ev×Bool :=
 if c≠0 then ([.fail c],F) else if over=F then ([],true) else (.fin::(go f r).1,(go f r).2)
def goB (f:Nat)(h:Hd)(r:au):List Ev×Bool :=
 match len h with
 | .inl c=>([.fail c],F)
 | .inr k =>
   if 0<=k then
    (if k.toNat <= r.length then (.head { h with length := k } :: some_ (r.take k.toNat) ++ (rest f (r.drop k.toNat) true 0).1, (rest f (r.drop k.toNat) true 0).2)
     else (.head { h with length:=k }::some_ r++(rest f [] F 0).1,(rest f [] F 0).2))
   else (.head { h with length:=k }::some_ (Ck.of r).body++(rest f (r.drop (Ck.of r).used) (Ck.of r).over (Ck.of r).code).1,(rest f (r.drop (Ck.of r).used) (Ck.of r).over (Ck.of r).code).2)
def goH (f:Nat)(h:Hd):Fs->List Ev×Bool
 | .fail c=>([.fail c],F)
 | .open_=>([],true)
 | .ok fs r=>goB f { h with fields:=fs } r
theorem X7 {h:Hd}{c:Nat}(e:len h=.inl c):c≠0:=by
 unfold len at e;split at e
 . injection e with e;omega
 . split at e
   . split at e
     . injection e with e;omega
     . split at e
       . injection e with e;omega
       . cases e
   . split at e
     . rename_i d b;injection e with e;subst e;have a:∀(f:au) (l:List (au)) (n:Int) (c:Nat),sizes f n l=.inl c->c≠0:=by
        intro f l;induction l with
        | nil=>intro n c e;cases e
        | cons v t g =>
          intro n c e;unfold sizes at e;split at e
          . injection e with e;omega
          . split at e
            . injection e with e;omega
            . exact g _ _ e
       exact a _ _ _ _ b
     . split at e
       . injection e with e;omega
       . cases e
theorem PS (f:Nat)(h:Hd)(x:List Fl)(a:Fs):goH f { h with fields:=x } a=goH f h a:=by cases a <;> rfl
theorem aao {f:Nat}{l:au}(h:(Ln.of l).code≠0):go (f+1) l=([.fail (Ln.of l).code],F):=by rw[go,if_pos h]
theorem go_open {f:Nat}{l:au}(h:(Ln.of l).code=0)(e:(Ln.of l).ended=F):go (f+1) l=([],decide (l≠[])):=by rw[go,if_neg (by omega),if_pos e]
theorem X8 {f:Nat}{l:au}(h:(Ln.of l).code=0)(e:(Ln.of l).ended=true)(t:(Ln.of l).text=[]):go (f+1) l=go f (l.drop (Ln.of l).size):=by rw[go,if_neg (by omega),if_neg (by rw[e];simp),if_pos t]
theorem NH {f:Nat}{l:au}{c:Nat}(h:(Ln.of l).code=0)(e:(Ln.of l).ended=true)(t:(Ln.of l).text≠[])(k:first (Ln.of l).text=.inl c):go (f+1) l=([.fail c],F):=by
 rw[go,if_neg (by omega),if_neg (by rw[e];simp),if_neg t,k]
theorem X9 {f:Nat}{l:au}{d:Hd}(h:(Ln.of l).code=0)(e:(Ln.of l).ended=true)(t:(Ln.of l).text≠[])(k:first (Ln.of l).text=.inr d):go (f+1) l=goH f d (rG (f+1) (l.drop (Ln.of l).size) []):=by
 rw[go,if_neg (by omega),if_neg (by rw[e];simp),if_neg t,k];cases rG (f+1) (l.drop (Ln.of l).size) [] with
 | fail c=>rfl
 | open_=>rfl
 | ok j r =>
   show _=goB f { d with fields:=j } r;unfold goB;dsimp only;generalize len { method:=d.method,target:=d.target,minor:=d.minor,fields:=j,length:=d.length }=L;cases L with
   | inl c=>rfl
   | inr k =>
     simp only[rest];by_cases b:0<=k
     . rw[if_pos b,if_pos b];by_cases a:k.toNat<=r.length
       . rw[if_pos a,if_pos a];simp
       . rw[if_neg a,if_neg a];simp
     . rw[if_neg b,if_neg b];by_cases a:(Ck.of r).code=0
       . rw[if_neg (by omega)];by_cases g:(Ck.of r).over=F
         . rw[if_pos g];simp[a,g]
         . rw[if_neg g];have i:(Ck.of r).over=true:=by simpa using g
           simp[a,i]
       . rw[if_pos a];simp[a]
theorem Ut {f:Nat}{l:au}{a:List Fl}(h:(Ln.of l).code≠0):rG (f+1) l a=.fail (Ln.of l).code:=by rw[rG,if_pos h]
theorem Uu {f:Nat}{l:au}{a:List Fl}(h:(Ln.of l).code=0)(e:(Ln.of l).ended=F):rG (f+1) l a=.open_:=by rw[rG,if_neg (by omega),if_pos e]
theorem Ya {f:Nat}{l:au}{a:List Fl}(h:(Ln.of l).code=0)(e:(Ln.of l).ended=true)(t:(Ln.of l).text=[]):rG (f+1) l a=.ok a (l.drop (Ln.of l).size):=by rw[rG,if_neg (by omega),if_neg (by rw[e];simp),if_pos t]
theorem Uv {f:Nat}{l:au}{a:List Fl}(h:(Ln.of l).code=0)(e:(Ln.of l).ended=true)(t:(Ln.of l).text≠[])(m:a.length=16):rG (f+1) l a=.fail 8:=by rw[rG,if_neg (by omega),if_neg (by rw[e];simp),if_neg t,if_pos m]
theorem Yb {f:Nat}{l:au}{a:List Fl}(h:(Ln.of l).code=0)(e:(Ln.of l).ended=true)(t:(Ln.of l).text≠[])(m:a.length≠16)(k:(Fd.of (Ln.of l).text).code≠0):rG (f+1) l a=.fail (Fd.of (Ln.of l).text).code:=by rw[rG,if_neg (by omega),if_neg (by rw[e];simp),if_neg t,if_neg m,if_pos k]
theorem Uw {f:Nat}{l:au}{a:List Fl}(h:(Ln.of l).code=0)(e:(Ln.of l).ended=true)(t:(Ln.of l).text≠[])(m:a.length≠16)(k:(Fd.of (Ln.of l).text).code=0):rG (f+1) l a=rG f (l.drop (Ln.of l).size) (a++[((Fd.of (Ln.of l).text).name,(Fd.of (Ln.of l).text).value)]):=by rw[rG,if_neg (by omega),if_neg (by rw[e];simp),if_neg t,if_neg m,if_neg (by omega)]
end Go.Proofs.YtjmndjmhjleabaaGreatDoor.Rq