/- Small texts, one behind the other: PlainRB, PlainRC, PlainRD, PlainRE, PlainRF, PlainRK, PlainRpB, PlainRN. -/
import Derived.Test.YtjmndjmhjleabaaGreatDoorAl
import Derived.Test.YtjmndjmhjleabaaGreatDoorPlainRA
import Derived.Test.YtjmndjmhjleabaaGreatDoorPk4
namespace Go.Proofs.YtjmndjmhjleabaaGreatDoor.Rq
def Apart:List Ev->Prop
 | .body _::_=>False
 | _=>True
theorem GZ {a:av}{r:List Ev}(h:Apart (join r)):join (.body a::r)=.body a::join r:=by
 rw[join];cases hj:join r with
 | nil=>rfl
 | cons e q => cases e with
   | body b=>rw[hj] at h;exact absurd h (fun h=>h)
   | head h=>rfl
   | fin=>rfl
   | fail c=>rfl
theorem G5 {a b:av}{r:List Ev}:join (.body a::.body b::r)=join (.body (a++b)::r):=by
 have e:∀x:av,join (.body x::r)=match join r with | .body y::q=>.body (x++y)::q | q=>.body x::q:=fun x=>by
  rw[join];cases join r with
  | nil=>rfl
  | cons e q=>cases e <;> rfl
 rw[join,e b,e (a++b)];cases hj:join r with
 | nil=>rfl
 | cons e q => cases e with
   | body y=>simp
   | head h=>rfl
   | fin=>rfl
   | fail c=>rfl
def ones (l:av):List Ev:=l.map fun c=>.body [c]
theorem vV:∀(l:av) (a:av) (r:List Ev),join (.body a::(ones l++r))=join (.body (a++l)::r)
 | [],a,r=>by simp[ones]
 | c :: t, a, r => by
   have:=vV t (a++[c]) r;rw[dU] at this;rw[show ones (c::t)++r=.body [c]::(ones t++r) from rfl,G5,this];rfl
theorem tX (l:av)(r:List Ev)(h:Apart (join r)):join (ones l++r)=some_ l++join r:=by
 cases l with
 | nil=>rfl
 | cons c t =>
   rw[show ones (c::t)++r=.body [c]::(ones t++r) from rfl,vV,GZ h];rfl
theorem G6 (r:List Ev):Apart (join (.fin::r)):=trivial
theorem Nn (c:Nat)(r:List Ev):Apart (join (.fail c::r)):=trivial
theorem G7:Apart (join []):=trivial
theorem qP (h:Hd)(r:List Ev):join (.head h::r)=.head h::join r:=by rw[join]
theorem DC (r:List Ev):join (.fin::r)=.fin::join r:=by rw[join]
theorem lT:∀(l:av) (s:St),s.ph=4->outs s l=[]∧fold s l=s
 | [],s,_=>⟨rfl,rfl⟩
 | c :: t, s, h => by
   have e:next s c=(s,[]):=by unfold next;rw[if_pos h]
   have ih:=lT t s h;constructor
   . show(next s c).2++outs (next s c).1 t=[];rw[e];exact ih.1
   . show fold (next s c).1 t=s;rw[e];exact ih.2
structure nM (s:St):Prop where
 ph:s.ph=0∨s.ph=1
 ln:s.ln=Ln.start
theorem Qf {s:St}(h:s.ln=Ln.start):{ s with ln:=Ln.start }=s:=by
 cases s;simp only at h;subst h;rfl
theorem Ja {s:St}(h:nM s)(l:av):∀j,j<=l.length->((Ln.of l).size=0∨j<(Ln.of l).size) ->
 outs s (l.take j)=[]∧fold s (l.take j)={ s with ln:=Ln.fold Ln.start (l.take j) }
 | 0,_,_=>⟨rfl,(Qf h.ln).symm⟩
 | j + 1, hj, hs => by
   have hlt:j<l.length:=by omega
   obtain⟨h1,h2⟩:=Ja h l j (by omega) (by omega);obtain⟨hE,hC⟩:=Ln.Di l j hlt (by omega);have hp:=h.ph;have e:next { s with ln:=Ln.fold Ln.start (l.take j) } l[j]=({ s with ln:=Ln.next (Ln.fold Ln.start (l.take j)) l[j] },[]):=by
    unfold next;rw[if_neg (by show ¬s.ph=4;omega),if_neg (by show ¬s.ph=2;omega),if_neg (by show ¬s.ph=3;omega),if_neg (fun e=>e hC),if_neg (by rw[hE];simp)]
   rw[bO hlt,jF,jM,h1,h2,Ln.oJ];constructor
   . show[]++((next { s with ln:=Ln.fold Ln.start (l.take j) } l[j]).2++[])=[];rw[e];rfl
   . show(next { s with ln:=Ln.fold Ln.start (l.take j) } l[j]).1=_;rw[e]
theorem G8 {s:St}(h:nM s)(l:av)(ho:(Ln.of l).size=0):outs s l=[]∧fold s l={ s with ln:=Ln.fold Ln.start l }:=by
 have:=Ja h l l.length (aM _) (Or.inl ho);rwa[bP] at this
theorem G9 {s:St}(h:nM s)(l:av)(ho:0<(Ln.of l).size):
 ((Ln.of l).code≠0->outs s l=[.fail (Ln.of l).code]∧(fold s l).ph=4) ∧
 ((Ln.of l).code=0->outs s l=(line s (Ln.of l).text).2++outs (line s (Ln.of l).text).1 (l.drop (Ln.of l).size)∧fold s l=fold (line s (Ln.of l).text).1 (l.drop (Ln.of l).size)):=by
 obtain⟨j,hj⟩:∃j,(Ln.of l).size=j+1:=⟨(Ln.of l).size-1,by omega⟩;have hle:=Ln.of_le l;have hlt:j<l.length:=by omega
 have hp:=h.ph;obtain⟨h1,h2⟩:=Ja h l j (by omega) (Or.inr (by omega));obtain⟨hE,hC,hT⟩:=Ln.GA l j hlt hj.symm;have hn:next { s with ln:=Ln.fold Ln.start (l.take j) } l[j]=if (Ln.of l).code≠0 then (dead { s with ln:=Ln.fold Ln.start (l.take j) },[.fail (Ln.of l).code]) else line s (Ln.of l).text:=by
  unfold next;rw[if_neg (by show ¬s.ph=4;omega),if_neg (by show ¬s.ph=2;omega),if_neg (by show ¬s.ph=3;omega)];show(if (Ln.next (Ln.fold Ln.start (l.take j)) l[j]).code≠0 then _ else if Ln.ends (Ln.fold Ln.start (l.take j)) l[j]=true then line { s with ln:=Ln.start } (Ln.text (Ln.fold Ln.start (l.take j)) l[j]) else _)=_;rw[hC,hE,hT,Qf h.ln];by_cases hc:(Ln.of l).code=0
  . have hcn:¬(Ln.of l).code≠0:=fun e=>e hc;simp only[if_neg hcn];rcases Ln.CU l with hk | hk | hk
    . omega
    . rw[if_pos hk.2]
    . exact absurd hc hk.1
  . simp only[if_pos hc]
 have hsplit:l=l.take j++l[j]::l.drop (j+1):=by
  rw[<-aD hlt,bX]
 have ho2:outs s l=(next { s with ln:=Ln.fold Ln.start (l.take j) } l[j]).2++outs (next { s with ln:=Ln.fold Ln.start (l.take j) } l[j]).1 (l.drop (j+1)):=by
  conv=>lhs;rw[hsplit,jF,h1,h2]
  rfl
 have hf2:fold s l=fold (next { s with ln:=Ln.fold Ln.start (l.take j) } l[j]).1 (l.drop (j+1)):=by
  conv=>lhs;rw[hsplit,jM,h2]
  rfl
 rw[ho2,hf2,hn,hj];constructor
 . intro hc;rw[if_pos hc];have:=lT (l.drop (j+1)) (dead { s with ln:=Ln.fold Ln.start (l.take j) }) rfl;exact⟨by rw[this.1];rfl,by rw[this.2];rfl⟩
 . intro hc;rw[if_neg (fun e=>e hc)];exact⟨rfl,rfl⟩
theorem sized:∀(k:Nat) (l:av) (s:St),s.ph=2->s.left=k+1 ->
 (l.length<k+1->outs s l=ones l∧(fold s l).ph=2) ∧
 (k+1<=l.length->outs s l=ones (l.take (k+1))++.fin::outs { s with ph:=0,left:=0 } (l.drop (k+1))∧fold s l=fold { s with ph:=0,left:=0 } (l.drop (k+1)))
 | k,[],s,h,_=>⟨fun _=>⟨rfl,h⟩,fun e=>by simp at e⟩
 | k, c :: t, s, h, hk => by
   cases k with
   | zero =>
     have e:next s c=({ s with ph:=0,left:=0 },[.body [c],.fin]):=by
      unfold next;rw[if_neg (by omega),if_pos h,if_pos (by omega)]
     refine⟨fun hl=>by simp at hl,fun _=>⟨?_,?_⟩⟩
     . show(next s c).2++outs (next s c).1 t=_;rw[e];rfl
     . show fold (next s c).1 t=_;rw[e];rfl
   | succ k =>
     have e:next s c=({ s with left:=k+1 },[.body [c]]):=by
      unfold next;rw[if_neg (by omega),if_pos h,if_neg (by omega),hk];rfl
     obtain⟨i1,i2⟩:=sized k t { s with left:=k+1 } h rfl;refine⟨fun hl=>?_,fun hl=>?_⟩
     . obtain⟨a,b⟩:=i1 (by simp at hl;omega);constructor
       . show(next s c).2++outs (next s c).1 t=_;rw[e];show[Ev.body [c]]++outs { s with left:=k+1 } t=_
         rw[a];rfl
       . show(fold (next s c).1 t).ph=2;rw[e];exact b
     . obtain⟨a,b⟩:=i2 (by simp at hl;omega);constructor
       . show(next s c).2++outs (next s c).1 t=_;rw[e];show[Ev.body [c]]++outs { s with left:=k+1 } t=_
         rw[a];rfl
       . show fold (next s c).1 t=_;rw[e];exact b
theorem Vu {s:Ck.St}{c:UInt8}(h4:s.ph≠4)(hc:s.code=0)(h:(Ck.next s c).ph=4):Ck.out s c=[]:=by
 unfold Ck.out;rw[if_neg];rintro ⟨_,h1⟩;unfold Ck.next at h;rw[if_neg (fun e=>e hc),if_neg h4,if_pos h1] at h;have:(if s.left<=1 then 2 else 1)=4:=h;split at this <;> omega
theorem Rn (l:av)(h:l.length<=1):some_ l=ones l:=by
 match l,h with
 | [],_=>rfl
 | [c],_=>rfl
theorem KC (a b:av):ones (a++b)=ones a++ones b:=by simp[ones]
theorem chunked:∀(l:av) (s:St),s.ph=3->s.ck.code=0->s.ck.ph≠4 ->
 ((Ck.run s.ck l).code≠0->outs s l=ones (Ck.run s.ck l).body++[.fail (Ck.run s.ck l).code]∧(fold s l).ph=4) ∧
 ((Ck.run s.ck l).code=0->(Ck.run s.ck l).over=true->∃s',s'.ph=0∧s'.ln=s.ln∧outs s l=ones (Ck.run s.ck l).body++.fin::outs s' (l.drop (Ck.run s.ck l).used)∧fold s l=fold s' (l.drop (Ck.run s.ck l).used)) ∧
 ((Ck.run s.ck l).code=0->(Ck.run s.ck l).over=false->outs s l=ones (Ck.run s.ck l).body∧(fold s l).ph=3)
 | [],s,h,_,_=>⟨fun e=>absurd rfl e,(fun _ e=>by cases e),fun _ _=>⟨rfl,h⟩⟩
 | c :: t, s, h, h0, h4 => by
   have hr:Ck.run s.ck (c::t)=if (Ck.next s.ck c).code≠0 then ⟨Ck.out s.ck c,1,false,(Ck.next s.ck c).code⟩ else if (Ck.next s.ck c).ph=4 then ⟨Ck.out s.ck c,1,true,0⟩ else ⟨Ck.out s.ck c++(Ck.run (Ck.next s.ck c) t).body,1+(Ck.run (Ck.next s.ck c) t).used,(Ck.run (Ck.next s.ck c) t).over,(Ck.run (Ck.next s.ck c) t).code⟩:=by rw[Ck.run]
   have hn:next s c=if (Ck.next s.ck c).code≠0 then (dead s,[.fail (Ck.next s.ck c).code]) else if (Ck.next s.ck c).ph=4 then ({ s with ph:=0 },[.fin]) else ({ s with ck:=Ck.next s.ck c },some_ (Ck.out s.ck c)):=by
    unfold next;rw[if_neg (by omega),if_neg (by omega),if_pos h]
   have ho:outs s (c::t)=(next s c).2++outs (next s c).1 t:=rfl;have hf:fold s (c::t)=fold (next s c).1 t:=rfl;rw[ho,hf,hr,hn];by_cases hc:(Ck.next s.ck c).code=0
   . have hcn:¬(Ck.next s.ck c).code≠0:=fun e=>e hc;simp only[if_neg hcn];by_cases hp:(Ck.next s.ck c).ph=4
     . simp only[if_pos hp];refine⟨fun e=>absurd rfl e,fun _ _=>⟨{ s with ph:=0 },rfl,rfl,?_,rfl⟩,fun _ e=>by cases e⟩;rw[Vu h4 h0 hp];rfl
     . simp only[if_neg hp];obtain⟨i1,i2,i3⟩:=chunked t { s with ck:=Ck.next s.ck c } h hc hp;rw[Rn _ (Ck.Qe s.ck c),KC];refine⟨fun e=>?_,fun e1 e2=>?_,fun e1 e2=>?_⟩
       . obtain⟨a,b⟩:=i1 e;exact⟨by rw[a,dU],b⟩
       . obtain⟨s',a,b,d,g⟩:=i2 e1 e2;refine⟨s',a,b,?_,?_⟩
         . rw[d,dU,Nat.add_comm 1,List.drop_succ_cons]
         . rw[g,Nat.add_comm 1,List.drop_succ_cons]
       . obtain⟨a,b⟩:=i3 e1 e2;exact⟨by rw[a],b⟩
   . simp only[if_pos hc];have:=lT t (dead s) rfl;refine⟨fun _=>⟨?_,by rw[this.2];rfl⟩,fun e=>absurd e hc,fun e=>absurd e hc⟩;rw[this.1,Ck.Vt hc];rfl
def ad3 (s:St)(l:av):Fs->Prop
 | .fail c=>outs s l=[.fail c]∧(fold s l).ph=4
 | .open_=>outs s l=[]∧(fold s l).ph=1
 | .ok fs r=>∃s1:St,s1.ph=1∧s1.ln=Ln.start∧s1.hd={ s.hd with fields:=fs }∧outs s l=(line s1 []).2++outs (line s1 []).1 r∧fold s l=fold (line s1 []).1 r∧r.length<l.length
theorem DF:∀(f:Nat) (l:av) (s:St),l.length<f->nM s->s.ph=1->ad3 s l (rH f l s.hd.fields)
 | 0,l,s,hf,_,_=>by omega
 | f + 1, l, s, hf, h, h1 => by
   rw[rH];by_cases ho:(Ln.of l).size=0
   . obtain⟨e1,e2⟩:=Ck.oZ ho;rw[if_neg (fun e=>e e1),if_pos e2];obtain⟨a,b⟩:=G8 h l ho;exact⟨a,by rw[b];exact h1⟩
   . have hp:0<(Ln.of l).size:=by omega
     have hle:=Ln.of_le l;obtain⟨t1,t2⟩:=G9 h l hp;by_cases hc:(Ln.of l).code=0
     . rw[if_neg (fun e=>e hc),if_neg (by rw[Ck.zA hp hc];simp)];obtain⟨a,b⟩:=t2 hc;by_cases ht:(Ln.of l).text=[]
       . rw[if_pos ht];rw[ht] at a b;exact⟨s,h1,h.ln,rfl,a,b,by rw[bV];omega⟩
       . rw[if_neg ht];have hL:line s (Ln.of l).text=if s.hd.fields.length=16 then (dead s,[.fail 8]) else if (Fd.of (Ln.of l).text).code≠0 then (dead s,[.fail (Fd.of (Ln.of l).text).code]) else ({ s with hd:={ s.hd with fields:=s.hd.fields++[((Fd.of (Ln.of l).text).name,(Fd.of (Ln.of l).text).value)] } },[]):=by
          unfold line;rw[if_neg (by omega),if_neg ht]
         rw[hL] at a b;by_cases h16:s.hd.fields.length=16
         . rw[if_pos h16] at a b ⊢;have:=lT (l.drop (Ln.of l).size) (dead s) rfl;exact⟨by rw[a,this.1];rfl,by rw[b,this.2];rfl⟩
         . rw[if_neg h16] at a b ⊢;by_cases hfc:(Fd.of (Ln.of l).text).code=0
           . rw[if_neg (fun e=>e hfc)] at a b ⊢;have ih:=DF f (l.drop (Ln.of l).size) { s with hd:={ s.hd with fields:=s.hd.fields++[((Fd.of (Ln.of l).text).name,(Fd.of (Ln.of l).text).value)] } } (by rw[bV];omega) ⟨h.ph,h.ln⟩ h1;simp only at ih;rw[dz] at a;revert ih;generalize rH f (l.drop (Ln.of l).size) (s.hd.fields++[((Fd.of (Ln.of l).text).name,(Fd.of (Ln.of l).text).value)])=F;intro ih;cases F with
             | fail c=>exact⟨a.trans ih.1,by rw[b];exact ih.2⟩
             | open_=>exact⟨a.trans ih.1,by rw[b];exact ih.2⟩
             | ok fs r =>
               obtain⟨s1,p1,p2,p3,p4,p5,p6⟩:=ih;exact⟨s1,p1,p2,p3,a.trans p4,b.trans p5,by rw[bV] at p6;omega⟩
           . rw[if_pos hfc] at a b ⊢;have:=lT (l.drop (Ln.of l).size) (dead s) rfl;exact⟨by rw[a,this.1];rfl,by rw[b,this.2];rfl⟩
     . rw[if_pos hc];exact t1 hc
theorem zB {t:av}{h:Hd}(e:first t=.inr h):h.fields=[]:=by
 unfold first at e;split at e
 . split at e
   . cases e
   . split at e
     . cases e
     . split at e
       . injection e with e;subst e;rfl
       . split at e
         . injection e with e;subst e;rfl
         . cases e
 . cases e
def failed (l:List Ev):Bool:=match l.getLast? with
 | some (.fail _)=>true
 | _=>false
theorem yM (x q:List Ev):failed (x++.fin::q)=failed q:=by
 unfold failed;rw[fq];cases q with
 | nil=>rfl
 | cons e t =>
   rw[List.getLast?_cons_cons];cases h:(e::t).getLast? with
   | none=>simp at h
   | some y=>rfl
theorem KD (x:List Ev)(c:Nat):failed (x++[.fail c])=true:=by
 unfold failed;rw[fq];rfl
theorem Bw (h:Hd)(l:av):failed (.head h::some_ l)=false:=by
 unfold some_;split <;> rfl
structure Bz (s:St)(l:av)(r:List Ev×Bool):Prop where
 ev:join (outs s l)=r.1
 busy:busy (fold s l)=r.2
 dead:decide ((fold s l).ph=4)=failed r.1
theorem Bz.fail {s:St}{l:av}{c:Nat}(h:outs s l=[.fail c]∧(fold s l).ph=4):Bz s l ([.fail c],false) :=
 ⟨by rw[h.1];rfl,by unfold Rq.busy;rw[if_pos h.2],by rw[h.2];rfl⟩
theorem Np (l:av)(ho:(Ln.of l).size=0):Ln.begun (Ln.fold Ln.start l)=decide (l≠[]):=by
 have:=Ln.xk l l.length (aM _) (Or.inl ho);rw[bP] at this;rw[Ln.Ni,this.2.2];cases l <;> simp
theorem vU:∀(f:Nat) (l:av) (s:St),l.length<f->s.ph=0->s.ln=Ln.start->Bz s l (go f l)
 | 0,l,s,hf,_,_=>by omega
 | f + 1, l, s, hf, h0, hln => by
   have h:nM s:=⟨Or.inl h0,hln⟩;rw[go];by_cases ho:(Ln.of l).size=0
   . obtain⟨e1,e2⟩:=Ck.oZ ho;rw[if_neg (fun e=>e e1),if_pos e2];obtain⟨a,b⟩:=G8 h l ho;refine⟨by rw[a];rfl,?_,by rw[b];show decide (s.ph=4)=false;rw[h0];rfl⟩;rw[b];unfold Rq.busy;rw[if_neg (by show ¬s.ph=4;omega),if_pos h0];exact Np l ho
   . have hp:0<(Ln.of l).size:=by omega
     have hle:=Ln.of_le l;obtain⟨t1,t2⟩:=G9 h l hp;by_cases hc:(Ln.of l).code=0
     . rw[if_neg (fun e=>e hc),if_neg (by rw[Ck.zA hp hc];simp)];obtain⟨a,b⟩:=t2 hc;have hdl:(l.drop (Ln.of l).size).length=l.length-(Ln.of l).size:=bV;by_cases ht:(Ln.of l).text=[]
       . rw[if_pos ht];have hL:line s (Ln.of l).text=(s,[]):=by unfold line;rw[if_pos h0,if_pos ht]
         rw[hL] at a b;have ih:=vU f (l.drop (Ln.of l).size) s (by omega) h0 hln;exact⟨by rw[a];exact ih.ev,by rw[b];exact ih.busy,by rw[b];exact ih.dead⟩
       . rw[if_neg ht];have hL:line s (Ln.of l).text=match first (Ln.of l).text with | .inl c=>(dead s,[.fail c]) | .inr h=>({ s with ph:=1,hd:=h },[]):=by
          unfold line;rw[if_pos h0,if_neg ht];cases first (Ln.of l).text <;> rfl
         rw[hL] at a b;have hff:∀h,first (Ln.of l).text=.inr h->h.fields=[]:=fun h e=>zB e;generalize first (Ln.of l).text=F at a b hff ⊢;generalize l.drop (Ln.of l).size=d at a b hdl ⊢;cases F with
         | inl c =>
           have:=lT d (Rq.dead s) rfl;exact Bz.fail ⟨by rw[a];show[Ev.fail c]++outs (Rq.dead s) d=_;rw[this.1];rfl,by rw[b];show(fold (Rq.dead s) d).ph=4;rw[this.2];rfl⟩
         | inr hd =>
           simp only[dz] at a b ⊢;have hfr:=DF (f+1) d { s with ph:=1,hd:=hd } (by omega) ⟨Or.inr rfl,hln⟩ rfl;simp only[hff hd rfl] at hfr;generalize rH (f+1) d []=F2 at hfr ⊢;cases F2 with
           | fail c=>exact Bz.fail ⟨a.trans hfr.1,by rw[b];exact hfr.2⟩
           | open_ =>
             refine⟨by rw[a,hfr.1];rfl,?_,?_⟩
             . rw[b];unfold Rq.busy;rw[hfr.2];rfl
             . rw[b,hfr.2];rfl
           | ok fs r =>
             obtain⟨s1,p1,p2,p3,p4,p5,p6⟩:=hfr;have hL2:line s1 []=match len s1.hd with
              | .inl c=>(Rq.dead s1,[.fail c])
              | .inr k=>if k=0 then ({ s1 with ph:=0 },[.head { s1.hd with length:=k },.fin]) else if 0<k then ({ s1 with ph:=2,left:=k.toNat },[.head { s1.hd with length:=k }]) else ({ s1 with ph:=3,ck:=Ck.start },[.head { s1.hd with length:=k }]):=by
              unfold line;rw[if_neg (by omega),if_pos rfl];cases len s1.hd <;> rfl
             have a2:=a.trans p4;have b2:=b.trans p5;simp only at p3;have hh:∀k,({ s1.hd with length:=k }:Hd)={ hd with fields:=fs,length:=k }:=fun k=>by rw[p3]
             have hlen:len s1.hd=len { hd with fields:=fs }:=by rw[p3]
             rw[hlen] at hL2;rw[hL2] at a2 b2;simp only;generalize len { hd with fields:=fs }=K at a2 b2 ⊢;cases K with
             | inl c =>
               have:=lT r (Rq.dead s1) rfl;exact Bz.fail ⟨by rw[a2];show[Ev.fail c]++outs (Rq.dead s1) r=_;rw[this.1];rfl,by rw[b2];show(fold (Rq.dead s1) r).ph=4;rw[this.2];rfl⟩
             | inr k =>
               simp only[hh] at a2 b2 ⊢;by_cases hk:0<=k
               . rw[if_pos hk];by_cases hk0:k=0
                 . subst hk0;rw[if_pos rfl] at a2 b2;rw[if_pos (show Int.toNat 0<=r.length from aA _)];have ih:=vU f r { s1 with ph:=0 } (by omega) rfl p2;refine⟨?_,by rw[b2];exact ih.busy,?_⟩
                   . rw[a2];show join (.head _::.fin::outs { s1 with ph:=0 } r)=_;rw[qP,DC,ih.ev];rfl
                   . rw[b2];refine ih.dead.trans ?_;exact(yM [_] _).symm
                 . rw[if_neg hk0,if_pos (by omega)] at a2 b2;obtain⟨j,hj⟩:∃j,k.toNat=j+1:=⟨k.toNat-1,by omega⟩;obtain⟨z1,z2⟩:=sized j r { s1 with ph:=2,left:=k.toNat } rfl hj;by_cases hle2:k.toNat<=r.length
                   . rw[if_pos hle2];obtain⟨y1,y2⟩:=z2 (by omega);have ih:=vU f (r.drop (j+1)) { s1 with ph:=0,left:=0 } (by rw[bV];omega) rfl p2;rw[hj];refine⟨?_,by rw[b2,y2];exact ih.busy,?_⟩
                     . rw[a2,y1];show join (.head _::(ones (r.take (j+1))++.fin::outs { s1 with ph:=0,left:=0 } (r.drop (j+1))))=_;rw[qP,tX _ _ (G6 _),DC,ih.ev];rfl
                     . rw[b2,y2];refine ih.dead.trans ?_;exact(yM (.head _::some_ (r.take (j+1))) _).symm
                   . rw[if_neg hle2];obtain⟨y1,y2⟩:=z1 (by omega);refine⟨?_,?_,?_⟩
                     . rw[a2,y1];show join (.head _::ones r)=_;have:=tX r [] G7;rw[bW,show join []=[] from rfl,bW] at this;rw[qP,this]
                     . rw[b2];unfold Rq.busy;rw[y2];rfl
                     . rw[b2,y2];exact(Bw _ _).symm
               . rw[if_neg hk];rw[if_neg (by omega),if_neg (by omega)] at a2 b2;have hs:=Ck.of_run r;obtain⟨z1,z2,z3⟩:=chunked r { s1 with ph:=3,ck:=Ck.start } rfl rfl (by show(0:Nat)≠4;omega);simp only at z1 z2 z3;rw[<-hs.code,<-hs.body] at z1;rw[<-hs.code,<-hs.over,<-hs.body] at z2 z3;by_cases hcc:(Ck.of r).code=0
                 . rw[if_neg (fun e=>e hcc)];cases hov:(Ck.of r).over
                   . rw[if_pos rfl];obtain⟨y1,y2⟩:=z3 hcc hov;refine⟨?_,?_,?_⟩
                     . rw[a2,y1];show join (.head _::ones (Ck.of r).body)=_;have:=tX (Ck.of r).body [] G7;rw[bW,show join []=[] from rfl,bW] at this;rw[qP,this]
                     . rw[b2];unfold Rq.busy;rw[y2];rfl
                     . rw[b2,y2];exact(Bw _ _).symm
                   . rw[if_neg (by simp)];obtain⟨s',y1,y2,y3,y4⟩:=z2 hcc hov;rw[<-hs.used (Or.inr hov)] at y3 y4;have hu:=Ck.YR r (Or.inr hov);have ih:=vU f (r.drop (Ck.of r).used) s' (by rw[bV];omega) y1 (y2.trans p2);refine⟨?_,by rw[b2,y4];exact ih.busy,?_⟩
                     . rw[a2,y3];show join (.head _::(ones (Ck.of r).body++.fin::outs s' (r.drop (Ck.of r).used)))=_;rw[qP,tX _ _ (G6 _),DC,ih.ev];rfl
                     . rw[b2,y4];refine ih.dead.trans ?_;exact(yM (.head _::some_ (Ck.of r).body) _).symm
                 . rw[if_pos hcc];obtain⟨y1,y2⟩:=z1 hcc;refine⟨?_,?_,?_⟩
                   . rw[a2,y1];show join (.head _::(ones (Ck.of r).body++[.fail (Ck.of r).code]))=_;rw[qP,tX _ _ (Nn _ _)];rfl
                   . rw[b2];unfold Rq.busy;rw[if_pos y2]
                   . rw[b2,y2];exact(KD (.head _::some_ (Ck.of r).body) _).symm
     . rw[if_pos hc];exact Bz.fail (t1 hc)
theorem of_run (l:av):Bz start l (of l):=vU (l.length+1) l start (by omega) rfl rfl
def Joined:List Ev->Prop
 | []=>True
 | .body _::r=>Apart r∧Joined r
 | _::r=>Joined r
theorem mI:∀l:List Ev,Joined (join l)
 | []=>trivial
 | .head h::r=>by rw[join];exact mI r
 | .fin::r=>by rw[join];exact mI r
 | .fail c::r=>by rw[join];exact mI r
 | .body a :: r => by
   have ih:=mI r;rw[join];cases hj:join r with
   | nil=>exact⟨trivial,trivial⟩
   | cons e q =>
     rw[hj] at ih;cases e with
     | body b=>exact ih
     | head h=>exact⟨trivial,ih⟩
     | fin=>exact⟨trivial,ih⟩
     | fail c=>exact⟨trivial,ih⟩
theorem jm:∀l:List Ev,Joined l->join l=l
 | [],_=>rfl
 | .head h::r,k=>by rw[join,jm r k]
 | .fin::r,k=>by rw[join,jm r k]
 | .fail c::r,k=>by rw[join,jm r k]
 | .body a :: r, k => by
   have e:=jm r k.2;rw[GZ (by rw[e];exact k.1),e]
theorem join_join (l:List Ev):join (join l)=join l:=jm _ (mI l)
theorem rJ:∀(a b:List Ev),join (a++join b)=join (a++b)
 | [],b=>join_join b
 | .head h::r,b=>by rw[dZ,dZ,join,join,rJ r b]
 | .fin::r,b=>by rw[dZ,dZ,join,join,rJ r b]
 | .fail c::r,b=>by rw[dZ,dZ,join,join,rJ r b]
 | .body x::r,b=>by rw[dZ,dZ,join,join,rJ r b]
theorem join_cons (x:av)(l r:List Ev)(h:join l=join r):join (.body x::l)=join (.body x::r):=by rw[join,join,h]
theorem qQ:∀(a b:List Ev),join (join a++b)=join (a++b)
 | [],b=>rfl
 | .head h::r,b=>by rw[join,dZ,dZ,join,join,qQ r b]
 | .fin::r,b=>by rw[join,dZ,dZ,join,join,qQ r b]
 | .fail c::r,b=>by rw[join,dZ,dZ,join,join,qQ r b]
 | .body x :: r, b => by
   have ih:=qQ r b;have e1:join (.body x::(join r++b))=join (.body x::(r++b)):=join_cons x _ _ ih;rw[dZ,<-e1];have e2:join (.body x::r)=match join r with | .body y::q=>.body (x++y)::q | q=>.body x::q:=by
    rw[join];cases join r with
    | nil=>rfl
    | cons e q=>cases e <;> rfl
   rw[e2];cases join r with
   | nil=>rfl
   | cons e q => cases e with
     | body y =>
       show join (.body (x++y)::(q++b))=join (.body x::.body y::(q++b))
       rw[G5]
     | head h=>rfl
     | fin=>rfl
     | fail c=>rfl
theorem Qj:∀(m w:av),(∀b∈m,b≠32)->cut w m=[w++m]
 | [],w,_=>by simp[cut]
 | c :: t, w, h => by
   rw[cut,if_neg (h c (cK ..)),Qj t (w++[c]) (fun b hb=>h b (cO _ hb))];simp
theorem DK:∀(m w t:av),(∀b∈m,b≠32)->cut w (m++32::t)=(w++m)::cut [] t
 | [],w,t,_=>by simp[cut]
 | c :: m, w, t, h => by
   rw[dZ,cut,if_neg (h c (cK ..)),DK m (w++[c]) t (fun b hb=>h b (cO _ hb))];simp
theorem VE:∀(f n:Nat),n<10 ^ (f+1)->∀b∈Ch.jH f n,Ch.visible b.toNat=true∧Ch.ws.contains b=false:=by
 have key:∀j,j<10->∀b∈Ch.jH 0 j,Ch.visible b.toNat=true∧Ch.ws.contains b=false:=fun j hj=>(show ∀j:Fin 10,∀b∈Ch.jH 0 j.val,Ch.visible b.toNat=true∧Ch.ws.contains b=false by decide +kernel) ⟨j,hj⟩;intro f;induction f with
 | zero=>intro n h b hb;exact key n (by simpa using h) b hb
 | succ f ih =>
   intro n h b hb;unfold Ch.jH at hb;split at hb
   . rename_i hn;exact key n hn b hb
   . rw[bB] at hb;rcases hb with hb | hb
     . exact ih (n / 10) (by rw[Nat.pow_succ] at h;omega) b hb
     . exact key (n % 10) (by omega) b hb
def qj:List Ev->Bool
 | []=>false
 | [.body _]=>true
 | _::r=>qj r
def Ev.uI:Ev->Bool
 | .body _=>true
 | _=>false
theorem pO:∀(l:List Ev) (e:Ev),Joined l->(e.uI=true->qj l=false)->Joined (l++[e])
 | [],e,_,_=>by cases e <;> first | exact trivial | exact⟨trivial,trivial⟩
 | [x], e, hl, h => by
   cases x with
   | body a =>
     cases e with
     | body b=>exact absurd (h rfl) (by simp[qj])
     | head _=>exact⟨trivial,trivial⟩
     | fin=>exact⟨trivial,trivial⟩
     | fail _=>exact⟨trivial,trivial⟩
   | head _=>cases e <;> first | exact trivial | exact⟨trivial,trivial⟩
   | fin=>cases e <;> first | exact trivial | exact⟨trivial,trivial⟩
   | fail _=>cases e <;> first | exact trivial | exact⟨trivial,trivial⟩
 | x :: y :: r, e, hl, h => by
   have h':e.uI=true->qj (y::r)=false:=fun k=>by
    have:=h k;cases x <;> exact this
   cases x with
   | body a=>exact⟨by have:=hl.1;cases y <;> exact this,pO (y::r) e hl.2 h'⟩
   | head _=>exact pO (y::r) e hl h'
   | fin=>exact pO (y::r) e hl h'
   | fail _=>exact pO (y::r) e hl h'
theorem Nw {l:List Ev}{e:Ev}(hl:Joined l)(h:e.uI=true->qj l=false):join (l++[e])=l++[e]:=jm _ (pO l e hl h)
theorem pQ:∀(l:List Ev) (a b:av),Joined (l++[.body a])->Joined (l++[.body b])
 | [],_,_,h=>h
 | [.body x],_,_,h=>absurd h.1 (fun k=>k)
 | .body x::y::r,a,b,h=>⟨by have:=h.1;cases y <;> exact this,pQ (y::r) a b h.2⟩
 | .head _::r,a,b,h=>pQ r a b h
 | .fin::r,a,b,h=>pQ r a b h
 | .fail _::r,a,b,h=>pQ r a b h
theorem KJ {l:List Ev}{a b:av}(h:Joined (l++[.body a])):join (l++[.body a]++[.body b])=l++[.body (a++b)]:=by
 rw[dU,<-rJ];exact jm _ (pQ l a (a++b) h)
theorem BG:∀(l:List Ev) (e:Ev),qj (l++[e])=e.uI
 | [],e=>by cases e <;> rfl
 | x::[],e=>by cases x <;> cases e <;> rfl
 | x :: y :: r, e => by
   have:=BG (y::r) e;cases x <;> exact this
theorem zG:∀(l:List Ev),qj l=true->∃q a,l=q++[.body a]
 | [],h=>by cases h
 | [x], h => by
   cases x with
   | body a=>exact⟨[],a,rfl⟩
   | head _=>cases h
   | fin=>cases h
   | fail _=>cases h
 | x :: y :: r, h => by
   have:qj (y::r)=true:=by cases x <;> exact h
   obtain⟨q,a,e⟩:=zG (y::r) this;exact⟨x::q,a,by rw[e];rfl⟩
theorem KL (l a b:List Ev):join (join (l++a)++b)=join (l++(a++b)):=by rw[qQ,dU]
theorem AO (s:St)(l:av)(c:UInt8):outs s (l++[c])=outs s l++(next (fold s l) c).2:=by
 rw[jF];show _++((next (fold s l) c).2++[])=_;rw[bW]
theorem oJ (s:St)(l:av)(c:UInt8):fold s (l++[c])=(next (fold s l) c).1:=by rw[jM];rfl
structure nH (h:Hd):Prop where
 method:h.method.length<=200
 target:h.target.length<=200
 minor:h.minor<=1
 many:h.fields.length<=16
 fields:∀f∈h.fields,f.1.length<=200∧f.2.length<=200
structure Good (s:St):Prop where
 ph:s.ph<=4
 ln:Ln.Good s.ln
 lc:s.ln.code=0
 hd:s.ph=1->nH s.hd∧s.hd.length=0
 left:s.ph=2->0<s.left∧s.left<=4000
 ck:s.ph=3->Ck.Good s.ck∧s.ck.code=0∧s.ck.ph≠4
def Ev.uJ:Ev->Prop
 | .head h=>nH h
 | _=>True
theorem Good.start:Good start:=⟨aA _,Ln.Good.start,rfl,(fun h=>by cases h),(fun h=>by cases h),(fun h=>by cases h)⟩
theorem Jd:∀(t w:av),(cut w t).length=t.count 32+1
 | [],w=>rfl
 | c :: t, w => by
   rw[cut];by_cases h:c=32
   . subst h;rw[if_pos rfl,aX,Jd t [],List.count_cons_self]
   . rw[if_neg h,Jd t,List.count_cons_of_ne (by simpa using h)]
theorem DL {c:UInt8}{t:av}(h:Fd.at_ c t<t.length):t=t.take (Fd.at_ c t)++c::t.drop (Fd.at_ c t+1):=by
 conv=>lhs;rw[<-bX (Fd.at_ c t) t,aD h,Fd.CV h]
theorem free_at {c:UInt8}{t:av}:∀b∈t.take (Fd.at_ c t),b≠c:=by
 intro b hb;obtain⟨j,hj,rfl⟩:=List.mem_iff_getElem.1 hb;rw[bY] at hj;rw[List.getElem_take];exact Fd.Dk (by omega) (by omega)
theorem KM {c:UInt8}{t:av}(h:0<t.count c):Fd.at_ c t<t.length:=by
 rcases aU (Fd.at_ c t) t.length with g | g
 . exact g
 . have:=free_at (c:=c) (t:=t);rw[dO g] at this;have h0:t.count c=0:=List.count_eq_zero.2 (fun k=>this c k rfl);omega
theorem DN {c:UInt8}{t:av}(h:Fd.at_ c t<t.length):t.count c=(t.drop (Fd.at_ c t+1)).count c+1:=by
 conv=>lhs;rw[DL h]
 rw[List.count_append,List.count_cons_self,List.count_eq_zero.2 (fun k=>free_at c k rfl)];omega
theorem Ho {t:av}(h:t.count 32=2):Fd.at_ 32 t<t.length∧Fd.at_ 32 (t.drop (Fd.at_ 32 t+1))<(t.drop (Fd.at_ 32 t+1)).length ∧
 cut [] t=[t.take (Fd.at_ 32 t),(t.drop (Fd.at_ 32 t+1)).take (Fd.at_ 32 (t.drop (Fd.at_ 32 t+1))),(t.drop (Fd.at_ 32 t+1)).drop (Fd.at_ 32 (t.drop (Fd.at_ 32 t+1))+1)]:=by
 have h1:=KM (c:=32) (t:=t) (by omega);have e1:=DN h1;have h2:=KM (c:=32) (t:=t.drop (Fd.at_ 32 t+1)) (by omega);have e2:=DN h2;refine⟨h1,h2,?_⟩;have s1:=DL h1;have s2:=DL h2;have h3:∀b∈(t.drop (Fd.at_ 32 t+1)).drop (Fd.at_ 32 (t.drop (Fd.at_ 32 t+1))+1),b≠32:=fun b hb e=>by
  have:0<((t.drop (Fd.at_ 32 t+1)).drop (Fd.at_ 32 (t.drop (Fd.at_ 32 t+1))+1)).count 32:=List.count_pos_iff.2 (e▸hb);omega
 conv=>lhs;rw[s1]
 rw[DK _ [] _ free_at,s2,DK _ [] _ free_at,Qj _ [] h3];simp only[dz];rw[<-s2]
theorem KN {t:av}(h:t.count 32≠2):first t=.inl 5:=by
 have:=Jd t [];unfold first;split
 . rename_i e;rw[e] at this;simp at this;omega
 . rfl
def Je (m g v:av):Nat ⊕ Hd :=
 if Ch.isToken m=false then .inl 6
 else if g.head?≠some 47∨9∈g then .inl 5
 else if v=[72,84,84,80,47,49,46,49] then .inr ⟨m,g,1,[],0⟩
 else if v=[72,84,84,80,47,49,46,48] then .inr ⟨m,g,0,[],0⟩
 else .inl 11
theorem BH {t:av}(h:t.count 32=2):first t=Je (t.take (Fd.at_ 32 t)) ((t.drop (Fd.at_ 32 t+1)).take (Fd.at_ 32 (t.drop (Fd.at_ 32 t+1)))) ((t.drop (Fd.at_ 32 t+1)).drop (Fd.at_ 32 (t.drop (Fd.at_ 32 t+1))+1)):=by
 unfold first;rw[(Ho h).2.2];rfl
theorem DR {t:av}{h:Hd}(ht:t.length<=200)(e:first t=.inr h):nH h∧h.length=0:=by
 by_cases hc:t.count 32=2
 . rw[BH hc] at e;unfold Je at e;have l1:(t.take (Fd.at_ 32 t)).length<=200:=by rw[bY];omega
   have l2:((t.drop (Fd.at_ 32 t+1)).take (Fd.at_ 32 (t.drop (Fd.at_ 32 t+1)))).length<=200:=by rw[bY,bV];omega
   split at e
   . cases e
   . split at e
     . cases e
     . split at e
       . injection e with e;subst e;exact⟨⟨l1,l2,aM _,aA _,fun f hf=>by cases hf⟩,rfl⟩
       . split at e
         . injection e with e;subst e;exact⟨⟨l1,l2,aA _,aA _,fun f hf=>by cases hf⟩,rfl⟩
         . cases e
 . rw[KN hc] at e;cases e
theorem KO:∀(f:av) (l:List (av)) (n k:Int),0<=n->sizes f n l=.inr k->0<=k
 | f,[],n,k,h0,e=>by injection e with e;omega
 | f, v :: t, n, k, h0, e => by
   rw[sizes] at e;split at e
   . cases e
   . split at e
     . cases e
     . refine KO f t _ k ?_ e;have:(Ch.number 10 9 v).1=0∨(Ch.number 10 9 v).1=Ch.numOf 10 v∧v.all (Ch.yc 10)=true∧v.length<=9:=by
        by_cases g1:v=[]∨(9:Int)<v.length
        . rw[Ch.lH 10 9 v g1];exact Or.inl rfl
        . cases g2:v.all (Ch.yc 10)
          . rw[Ch.tQ 10 9 v g2];exact Or.inl rfl
          . rw[Ch.rG 10 9 v (fun e=>g1 (Or.inl e)) (fun e=>g1 (Or.inr e)) g2];exact Or.inr ⟨rfl,rfl,by omega⟩
       rcases this with g | ⟨g,g2,g3⟩
       . omega
       . rw[g];exact(Ch.mH 10 (by omega) (by omega) v g2 g3).1
theorem xD {h:Hd}{k:Int}(e:len h=.inr k):k=-1∨0<=k∧k<=4000:=by
 unfold len at e;split at e
 . cases e
 . split at e
   . split at e
     . cases e
     . split at e
       . cases e
       . injection e with e;exact Or.inl e.symm
   . split at e
     . cases e
     . rename_i n hn;split at e
       . cases e
       . injection e with e;subst e;exact Or.inr ⟨KO _ _ 0 _ (by omega) hn,by omega⟩
theorem Good.dead {s:St}(h:Good s):Good (dead s):=⟨aM _,h.ln,h.lc,(fun e=>by cases e),(fun e=>by cases e),(fun e=>by cases e)⟩
theorem Good.line {s:St}(h:Good s)(hp:s.ph=0∨s.ph=1)(t:av)(ht:t.length<=200):Good (line s t).1∧∀e∈(line s t).2,e.uJ:=by
 unfold Rq.line;by_cases h0:s.ph=0
 . rw[if_pos h0];by_cases hn:t=[]
   . rw[if_pos hn];exact⟨h,fun e he=>by cases he⟩
   . rw[if_neg hn];cases hf:first t with
     | inl c=>exact⟨h.dead,fun e he=>by simp at he;subst he;exact trivial⟩
     | inr hd=>exact⟨⟨by show 1<=4;omega,h.ln,h.lc,fun _=>DR ht hf,(fun e=>by cases e),(fun e=>by cases e)⟩,fun e he=>by cases he⟩
 . rw[if_neg h0];obtain⟨hg,hl0⟩:=h.hd (by omega);have hH:∀k:Int,nH { s.hd with length:=k }:=fun k=>⟨hg.method,hg.target,hg.minor,hg.many,hg.fields⟩;by_cases hn:t=[]
   . rw[if_pos hn];cases hk:len s.hd with
     | inl c=>exact⟨h.dead,fun e he=>by simp at he;subst he;exact trivial⟩
     | inr k =>
       have hr:=xD hk;simp only;by_cases k0:k=0
       . rw[if_pos k0];refine⟨⟨aA _,h.ln,h.lc,(fun e=>by cases e),(fun e=>by cases e),(fun e=>by cases e)⟩,fun e he=>?_⟩;simp at he;rcases he with rfl | rfl
         . exact hH k
         . exact trivial
       . rw[if_neg k0];by_cases k1:0<k
         . rw[if_pos k1];refine⟨⟨by show 2<=4;omega,h.ln,h.lc,(fun e=>by cases e),fun _=>⟨by show 0<k.toNat;omega,by show k.toNat<=4000;omega⟩,(fun e=>by cases e)⟩,fun e he=>?_⟩;simp at he;subst he;exact hH k
         . rw[if_neg k1];refine⟨⟨by show 3<=4;omega,h.ln,h.lc,(fun e=>by cases e),(fun e=>by cases e),fun _=>⟨Ck.Good.start,rfl,by show(0:Nat)≠4;omega⟩⟩,fun e he=>?_⟩;simp at he;subst he;exact hH k
   . rw[if_neg hn];split
     . exact⟨h.dead,fun e he=>by simp at he;subst he;exact trivial⟩
     . rename_i h16;split
       . exact⟨h.dead,fun e he=>by simp at he;subst he;exact trivial⟩
       . have:=Fd.AP t;refine⟨⟨h.ph,h.ln,h.lc,fun _=>⟨⟨hg.method,hg.target,hg.minor,?_,fun f hf=>?_⟩,hl0⟩,h.left,h.ck⟩,fun e he=>by cases he⟩
         . have:=hg.many;show(s.hd.fields++[((Fd.of t).name,(Fd.of t).value)]).length<=16;rw[aW];simp;omega
         . rcases bB.1 hf with hf | hf
           . exact hg.fields f hf
           . simp at hf;subst hf;exact⟨dG this.1 ht,dG this.2 ht⟩
theorem uK {s:Ln.St}{c:UInt8}(h:Ln.Good s):(Ln.text s c).length<=200∧∀b∈Ln.text s c,Ch.visible b.toNat=true:=by
 unfold Ln.text;split
 . exact⟨h.short,h.seen⟩
 . exact⟨aA _,fun b hb=>by cases hb⟩
theorem Good.next {s:St}(h:Good s)(c:UInt8):Good (next s c).1∧∀e∈(next s c).2,e.uJ:=by
 have h0:Good { s with ph:=0 }:=⟨aA _,h.ln,h.lc,(fun e=>by cases e),(fun e=>by cases e),(fun e=>by cases e)⟩;unfold Rq.next;split
 . exact⟨h,fun e he=>by cases he⟩
 . split
   . rename_i h2;obtain⟨l1,l2⟩:=h.left h2;split
     . refine⟨⟨aA _,h.ln,h.lc,(fun e=>by cases e),(fun e=>by cases e),(fun e=>by cases e)⟩,fun e he=>?_⟩;simp at he;rcases he with rfl | rfl <;> exact trivial
     . refine⟨⟨h.ph,h.ln,h.lc,h.hd,fun _=>⟨by show 0<s.left-1;omega,by show s.left-1<=4000;omega⟩,h.ck⟩,fun e he=>?_⟩;simp at he;subst he;exact trivial
   . split
     . rename_i h3;obtain⟨k1,k2,k3⟩:=h.ck h3;split
       . exact⟨h.dead,fun e he=>by simp at he;subst he;exact trivial⟩
       . split
         . exact⟨h0,fun e he=>by simp at he;subst he;exact trivial⟩
         . rename_i hA hB;refine⟨⟨h.ph,h.ln,h.lc,h.hd,h.left,fun _=>⟨k1.next c,by show(Ck.next s.ck c).code=0;omega,hB⟩⟩,fun e he=>?_⟩;unfold some_ at he;split at he
           . cases he
           . simp at he;subst he;exact trivial
     . rename_i h4 h2 h3;have hp:=h.ph;split
       . exact⟨h.dead,fun e he=>by simp at he;subst he;exact trivial⟩
       . split
         . have hs:Good { s with ln:=Ln.start }:=⟨h.ph,Ln.Good.start,rfl,h.hd,h.left,h.ck⟩;exact hs.line (by show s.ph=0∨s.ph=1;omega) _ (uK h.ln).1
         . exact⟨⟨h.ph,Ln.tT h.ln,by rename_i a _;show(Ln.next s.ln c).code=0;omega,h.hd,h.left,h.ck⟩,fun e he=>by cases he⟩
theorem Good.fold:∀(l:av) {s:St},Good s->Good (fold s l)
 | [],_,h=>h
 | c::t,s,h=>Good.fold t (s:=(Rq.next s c).1) (h.next c).1
theorem qU:∀(l:av) {s:St},Good s->∀e∈outs s l,e.uJ
 | [],_,_=>fun e he=>by cases he
 | c :: t, s, h => fun e he => by
   rcases bB.1 he with he | he
   . exact(h.next c).2 e he
   . exact qU t (h.next c).1 e he
theorem oM:∀(l:List Ev),(∀e∈l,e.uJ)->∀e∈join l,e.uJ
 | [],_=>fun e he=>by cases he
 | .head h :: r, k => fun e he => by
   rw[join] at he;rcases fB.1 he with rfl | he
   . exact k _ (cK ..)
   . exact oM r (fun x hx=>k x (cO _ hx)) e he
 | .fin :: r, k => fun e he => by
   rw[join] at he;rcases fB.1 he with rfl | he
   . exact trivial
   . exact oM r (fun x hx=>k x (cO _ hx)) e he
 | .fail c :: r, k => fun e he => by
   rw[join] at he;rcases fB.1 he with rfl | he
   . exact trivial
   . exact oM r (fun x hx=>k x (cO _ hx)) e he
 | .body a :: r, k => fun e he => by
   have ih:=oM r (fun x hx=>k x (cO _ hx));rw[join] at he;cases hj:join r with
   | nil=>rw[hj] at he;simp at he;subst he;exact trivial
   | cons y q =>
     rw[hj] at he ih;cases y with
     | body b =>
       rcases fB.1 he with rfl | he
       . exact trivial
       . exact ih e (cO _ he)
     | head h =>
       rcases fB.1 he with rfl | he
       . exact trivial
       . exact ih e he
     | fin =>
       rcases fB.1 he with rfl | he
       . exact trivial
       . exact ih e he
     | fail c =>
       rcases fB.1 he with rfl | he
       . exact trivial
       . exact ih e he
def jE:List Ev->Nat
 | []=>0
 | .body a::r=>a.length+jE r
 | _::r=>jE r
def Full (l:List Ev):Prop:=∀a,Ev.body a∈l->a≠[]
theorem mO:∀a b:List Ev,jE (a++b)=jE a+jE b
 | [],b=>by simp[jE]
 | .body x::r,b=>by rw[dZ,jE,jE,mO r b];omega
 | .head _::r,b=>mO r b
 | .fin::r,b=>mO r b
 | .fail _::r,b=>mO r b
theorem qW:∀l:List Ev,jE (join l)=jE l
 | []=>rfl
 | .head _::r=>by rw[join];exact qW r
 | .fin::r=>by rw[join];exact qW r
 | .fail _::r=>by rw[join];exact qW r
 | .body a :: r => by
   have ih:=qW r;rw[join];cases hj:join r with
   | nil=>rw[hj] at ih;simp only[jE] at ih ⊢;omega
   | cons e q =>
     rw[hj] at ih;cases e with
     | body b=>simp only[jE,aW] at ih ⊢;omega
     | head _=>simp only[jE] at ih ⊢;omega
     | fin=>simp only[jE] at ih ⊢;omega
     | fail _=>simp only[jE] at ih ⊢;omega
theorem join_length:∀l:List Ev,(join l).length<=l.length
 | []=>aM _
 | .head _::r=>by rw[join,aX,aX];have:=join_length r;omega
 | .fin::r=>by rw[join,aX,aX];have:=join_length r;omega
 | .fail _::r=>by rw[join,aX,aX];have:=join_length r;omega
 | .body a :: r => by
   have ih:=join_length r;rw[join];cases hj:join r with
   | nil=>rw[hj] at ih;simp only[aX,cu] at ih ⊢;omega
   | cons e q =>
     rw[hj] at ih;cases e <;> simp only[aX] at ih ⊢ <;> omega
theorem qX:∀l:List Ev,Full l->Full (join l)
 | [],h=>h
 | .head _ :: r, h => by
   have ih:=qX r (fun a ha=>h a (cO _ ha));rw[join];intro a ha;rcases fB.1 ha with ha | ha
   . cases ha
   . exact ih a ha
 | .fin :: r, h => by
   have ih:=qX r (fun a ha=>h a (cO _ ha));rw[join];intro a ha;rcases fB.1 ha with ha | ha
   . cases ha
   . exact ih a ha
 | .fail _ :: r, h => by
   have ih:=qX r (fun a ha=>h a (cO _ ha));rw[join];intro a ha;rcases fB.1 ha with ha | ha
   . cases ha
   . exact ih a ha
 | .body x :: r, h => by
   have ih:=qX r (fun a ha=>h a (cO _ ha));have hx:x≠[]:=h x (cK ..);rw[join];cases hj:join r with
   | nil =>
     intro a ha;simp at ha;subst ha;exact hx
   | cons e q =>
     rw[hj] at ih;have hone:∀a,Ev.body a∈Ev.body x::e::q->a≠[]:=fun a ha=>by
      rcases fB.1 ha with ha | ha
      . injection ha with ha;subst ha;exact hx
      . exact ih a ha
     cases e with
     | body b =>
       intro a ha;rcases fB.1 ha with ha | ha
       . injection ha with ha;subst ha;simp[hx]
       . exact ih a (cO _ ha)
     | head _=>exact hone
     | fin=>exact hone
     | fail _=>exact hone
theorem BN {a b:List Ev}(h:Full a)(k:Full b):Full (a++b):=fun x hx=>by
 rcases bB.1 hx with hx | hx
 . exact h x hx
 . exact k x hx
theorem Wd (s:St)(t:av):(line s t).2.length<=2∧jE (line s t).2=0∧Full (line s t).2:=by
 have hf:∀c,([Ev.fail c]:List Ev).length<=2∧jE [Ev.fail c]=0∧Full [Ev.fail c]:=fun c=>⟨by simp,rfl,fun a ha=>by simp at ha⟩;have h0:([]:List Ev).length<=2∧jE []=0∧Full []:=⟨by simp,rfl,fun a ha=>by cases ha⟩;unfold line;split
 . split
   . exact h0
   . split
     . exact hf _
     . exact h0
 . split
   . split
     . exact hf _
     . split
       . exact⟨by simp,rfl,fun a ha=>by simp at ha⟩
       . split
         . exact⟨by simp,rfl,fun a ha=>by simp at ha⟩
         . exact⟨by simp,rfl,fun a ha=>by simp at ha⟩
   . split
     . exact hf _
     . split
       . exact hf _
       . exact h0
theorem Wh (s:St)(c:UInt8):(next s c).2.length<=2∧jE (next s c).2<=1∧Full (next s c).2:=by
 have hf:∀c,([Ev.fail c]:List Ev).length<=2∧jE [Ev.fail c]<=1∧Full [Ev.fail c]:=fun c=>⟨by simp,aA _,fun a ha=>by simp at ha⟩;have h0:([]:List Ev).length<=2∧jE []<=1∧Full []:=⟨by simp,aA _,fun a ha=>by cases ha⟩;unfold next;split
 . exact h0
 . split
   . split
     . exact⟨by simp,by simp[jE],fun a ha=>by simp at ha;subst ha;simp⟩
     . exact⟨by simp,by simp[jE],fun a ha=>by simp at ha;subst ha;simp⟩
   . split
     . split
       . exact hf _
       . split
         . exact⟨by simp,aA _,fun a ha=>by simp at ha⟩
         . have:=Ck.Qe s.ck c;unfold some_;split
           . exact h0
           . rename_i hne;exact⟨by simp,by simp only[jE];omega,fun a ha=>by simp at ha;subst ha;exact hne⟩
     . split
       . exact hf _
       . split
         . have:=Wd { s with ln:=Ln.start } (Ln.text s.ln c);exact⟨this.1,by omega,this.2.2⟩
         . exact h0
theorem nI:∀(l:av) (s:St),(outs s l).length<=2*l.length∧jE (outs s l)<=l.length∧Full (outs s l)
 | [],s=>⟨by simp[outs],by simp[outs,jE],fun a ha=>by cases ha⟩
 | c :: t, s => by
   have h1:=Wh s c;have h2:=nI t (next s c).1;rw[outs,aW,mO,aX];exact⟨by omega,by omega,BN h1.2.2 h2.2.2⟩
theorem Qw (s:St)(l:av):(join (outs s l)).length<=2*l.length∧jE (join (outs s l))<=l.length∧Full (join (outs s l))∧Joined (join (outs s l)):=by
 have h:=nI l s;have hl:=join_length (outs s l);exact⟨by omega,by rw[qW];exact h.2.1,qX _ h.2.2,mI _⟩
end Go.Proofs.YtjmndjmhjleabaaGreatDoor.Rq
namespace Go.Proofs.YtjmndjmhjleabaaGreatDoor.Rp
def nCL:av:=[67,111,110,116,101,110,116,45,76,101,110,103,116,104]
theorem QH {n:Nat}(h:n<1000000000):(Fd.text nCL (Ch.jH 8 n)).2=0∧(Fd.text nCL (Ch.jH 8 n)).1=cl++Ch.jH 8 n:=by
 have hf:=Rq.VE 8 n h;have hl:=Ch.jX 8 n;have hk:nCL.length=14:=rfl;unfold Fd.text;rw[if_neg (by decide),if_neg (by rw[hk];omega),if_neg]
 . exact⟨rfl,rfl⟩
 . rintro (e | e)
   . have:Ch.iy (Ch.jH 8 n)=true:=dN.2 fun b hb=>(hf b hb).1;rw[this] at e;cases e
   . exact e (Ck.Rm fun b hb=>(hf b hb).2)
end Go.Proofs.YtjmndjmhjleabaaGreatDoor.Rp
namespace Go.Proofs.YtjmndjmhjleabaaGreatDoor
theorem Ln.Cu (l:av):∀(t:av) (i:Nat),i<=200->(Ln.go l i t).text.length<=200
 | [],i,_=>aA _
 | c :: t, i, hi => by
   unfold Ln.go;split
   . split
     . exact aA _
     . split
       . show(l.take i).length<=200;rw[bY];omega
       . exact aA _
   . split
     . exact aA _
     . split
       . exact aA _
       . split
         . exact aA _
         . exact Ln.Cu l t (i+1) (by omega)
theorem Ln.Cv (l:av):(Ln.of l).text.length<=200:=Ln.Cu l l 0 (by omega)
theorem Ck.FH:∀(f:Nat) (l:av) (n:Nat),(Ck.trail f l n).used<=l.length
 | 0,_,_=>aA _
 | f + 1, l, n => by
   have hl:=Ln.of_le l;unfold Ck.trail;split
   . exact hl
   . split
     . exact hl
     . split
       . exact hl
       . split
         . exact hl
         . have:=Ck.FH f (l.drop (Ln.of l).size) (n+1);rw[bV] at this;show(Ln.of l).size+(Ck.trail f (l.drop (Ln.of l).size) (n+1)).used<=l.length;omega
theorem Ck.Q8:∀(f:Nat) (l:av) (n:Nat),(Ck.go f l n).used<=l.length
 | 0,_,_=>aA _
 | f + 1, l, n => by
   have hl:=Ln.of_le l;unfold Ck.go;split
   . exact hl
   . split
     . exact hl
     . split
       . exact hl
       . split
         . have:=Ck.FH (f+1) (l.drop (Ln.of l).size) 0;rw[bV] at this;show(Ln.of l).size+(Ck.trail (f+1) (l.drop (Ln.of l).size) 0).used<=l.length;omega
         . have hd:(l.drop (Ln.of l).size).length=l.length-(Ln.of l).size:=bV;simp only;split
           . show(Ln.of l).size+(l.drop (Ln.of l).size).length<=l.length;omega
           . rename_i hk;have he:=Ln.of_le ((l.drop (Ln.of l).size).drop (Ck.size (Ln.of l).text).1.toNat);rw[bV] at he;split
             . show(Ln.of l).size+(Ck.size (Ln.of l).text).1.toNat+(Ln.of ((l.drop (Ln.of l).size).drop (Ck.size (Ln.of l).text).1.toNat)).size<=l.length;omega
             . split
               . show(Ln.of l).size+(Ck.size (Ln.of l).text).1.toNat+(Ln.of ((l.drop (Ln.of l).size).drop (Ck.size (Ln.of l).text).1.toNat)).size<=l.length;omega
               . have hr:=Ck.Q8 f (((l.drop (Ln.of l).size).drop (Ck.size (Ln.of l).text).1.toNat).drop (Ln.of ((l.drop (Ln.of l).size).drop (Ck.size (Ln.of l).text).1.toNat)).size) (n+(Ck.size (Ln.of l).text).1.toNat);rw[bV,bV] at hr;show(Ln.of l).size+(Ck.size (Ln.of l).text).1.toNat+(Ln.of ((l.drop (Ln.of l).size).drop (Ck.size (Ln.of l).text).1.toNat)).size+(Ck.go f _ _).used<=l.length;omega
theorem Ck.Q9 (l:av):(Ck.of l).used<=l.length:=Ck.Q8 _ l 0
end Go.Proofs.YtjmndjmhjleabaaGreatDoor
namespace Go.Proofs.YtjmndjmhjleabaaGreatDoor.Rq
theorem PS {t:av}{c:Nat}(h:first t=.inl c):c≠0:=by
 unfold first at h;split at h
 . split at h
   . injection h with h;omega
   . split at h
     . injection h with h;omega
     . split at h
       . cases h
       . split at h
         . cases h
         . injection h with h;omega
 . injection h with h;omega
theorem nH.more {h:Hd}(hg:nH h)(t:av)(ht:t.length<=200)(h16:h.fields.length≠16):nH { h with fields:=h.fields++[((Fd.of t).name,(Fd.of t).value)] }:=by
 have:=Fd.AP t;refine⟨hg.method,hg.target,hg.minor,?_,fun f hf=>?_⟩
 . have:=hg.many;show(h.fields++[((Fd.of t).name,(Fd.of t).value)]).length<=16;rw[aW];simp;omega
 . rcases bB.1 hf with hf | hf
   . exact hg.fields f hf
   . simp at hf;subst hf;exact⟨dG this.1 ht,dG this.2 ht⟩
def rest (f:Nat)(r:av)(over:Bool)(c:Nat):List Ev×Bool :=
 if c≠0 then ([.fail c],false) else if over=false then ([],true) else (.fin::(go f r).1,(go f r).2)
def goB (f:Nat)(h:Hd)(r:av):List Ev×Bool :=
 match len h with
 | .inl c=>([.fail c],false)
 | .inr k =>
   if 0<=k then
    (if k.toNat <= r.length then (.head { h with length := k } :: some_ (r.take k.toNat) ++ (rest f (r.drop k.toNat) true 0).1, (rest f (r.drop k.toNat) true 0).2)
     else (.head { h with length:=k }::some_ r++(rest f [] false 0).1,(rest f [] false 0).2))
   else (.head { h with length:=k }::some_ (Ck.of r).body++(rest f (r.drop (Ck.of r).used) (Ck.of r).over (Ck.of r).code).1,(rest f (r.drop (Ck.of r).used) (Ck.of r).over (Ck.of r).code).2)
def goH (f:Nat)(h:Hd):Fs->List Ev×Bool
 | .fail c=>([.fail c],false)
 | .open_=>([],true)
 | .ok fs r=>goB f { h with fields:=fs } r
theorem X8 {h:Hd}{c:Nat}(e:len h=.inl c):c≠0:=by
 unfold len at e;split at e
 . injection e with e;omega
 . split at e
   . split at e
     . injection e with e;omega
     . split at e
       . injection e with e;omega
       . cases e
   . split at e
     . rename_i d hd;injection e with e;subst e;have key:∀(f:av) (l:List (av)) (n:Int) (c:Nat),sizes f n l=.inl c->c≠0:=by
        intro f l;induction l with
        | nil=>intro n c e;cases e
        | cons v t ih =>
          intro n c e;unfold sizes at e;split at e
          . injection e with e;omega
          . split at e
            . injection e with e;omega
            . exact ih _ _ e
       exact key _ _ _ _ hd
     . split at e
       . injection e with e;omega
       . cases e
theorem PU (f:Nat)(h:Hd)(x:List Fl)(F:Fs):goH f { h with fields:=x } F=goH f h F:=by cases F <;> rfl
theorem aap {f:Nat}{l:av}(h:(Ln.of l).code≠0):go (f+1) l=([.fail (Ln.of l).code],false):=by rw[go,if_pos h]
theorem go_open {f:Nat}{l:av}(h:(Ln.of l).code=0)(e:(Ln.of l).ended=false):go (f+1) l=([],decide (l≠[])):=by rw[go,if_neg (by omega),if_pos e]
theorem X9 {f:Nat}{l:av}(h:(Ln.of l).code=0)(e:(Ln.of l).ended=true)(t:(Ln.of l).text=[]):go (f+1) l=go f (l.drop (Ln.of l).size):=by rw[go,if_neg (by omega),if_neg (by rw[e];simp),if_pos t]
theorem NI {f:Nat}{l:av}{c:Nat}(h:(Ln.of l).code=0)(e:(Ln.of l).ended=true)(t:(Ln.of l).text≠[])(k:first (Ln.of l).text=.inl c):go (f+1) l=([.fail c],false):=by
 rw[go,if_neg (by omega),if_neg (by rw[e];simp),if_neg t,k]
theorem Ya {f:Nat}{l:av}{d:Hd}(h:(Ln.of l).code=0)(e:(Ln.of l).ended=true)(t:(Ln.of l).text≠[])(k:first (Ln.of l).text=.inr d):go (f+1) l=goH f d (rH (f+1) (l.drop (Ln.of l).size) []):=by
 rw[go,if_neg (by omega),if_neg (by rw[e];simp),if_neg t,k];cases rH (f+1) (l.drop (Ln.of l).size) [] with
 | fail c=>rfl
 | open_=>rfl
 | ok fs r =>
   show _=goB f { d with fields:=fs } r;unfold goB;dsimp only;generalize len { method:=d.method,target:=d.target,minor:=d.minor,fields:=fs,length:=d.length }=L;cases L with
   | inl c=>rfl
   | inr k =>
     simp only[rest];by_cases h1:0<=k
     . rw[if_pos h1,if_pos h1];by_cases h2:k.toNat<=r.length
       . rw[if_pos h2,if_pos h2];simp
       . rw[if_neg h2,if_neg h2];simp
     . rw[if_neg h1,if_neg h1];by_cases h2:(Ck.of r).code=0
       . rw[if_neg (by omega)];by_cases h3:(Ck.of r).over=false
         . rw[if_pos h3];simp[h2,h3]
         . rw[if_neg h3];have h3':(Ck.of r).over=true:=by simpa using h3
           simp[h2,h3']
       . rw[if_pos h2];simp[h2]
theorem Uu {f:Nat}{l:av}{fs:List Fl}(h:(Ln.of l).code≠0):rH (f+1) l fs=.fail (Ln.of l).code:=by rw[rH,if_pos h]
theorem Uv {f:Nat}{l:av}{fs:List Fl}(h:(Ln.of l).code=0)(e:(Ln.of l).ended=false):rH (f+1) l fs=.open_:=by rw[rH,if_neg (by omega),if_pos e]
theorem Yb {f:Nat}{l:av}{fs:List Fl}(h:(Ln.of l).code=0)(e:(Ln.of l).ended=true)(t:(Ln.of l).text=[]):rH (f+1) l fs=.ok fs (l.drop (Ln.of l).size):=by rw[rH,if_neg (by omega),if_neg (by rw[e];simp),if_pos t]
theorem Uw {f:Nat}{l:av}{fs:List Fl}(h:(Ln.of l).code=0)(e:(Ln.of l).ended=true)(t:(Ln.of l).text≠[])(m:fs.length=16):rH (f+1) l fs=.fail 8:=by rw[rH,if_neg (by omega),if_neg (by rw[e];simp),if_neg t,if_pos m]
theorem Yc {f:Nat}{l:av}{fs:List Fl}(h:(Ln.of l).code=0)(e:(Ln.of l).ended=true)(t:(Ln.of l).text≠[])(m:fs.length≠16)(k:(Fd.of (Ln.of l).text).code≠0):rH (f+1) l fs=.fail (Fd.of (Ln.of l).text).code:=by rw[rH,if_neg (by omega),if_neg (by rw[e];simp),if_neg t,if_neg m,if_pos k]
theorem Ux {f:Nat}{l:av}{fs:List Fl}(h:(Ln.of l).code=0)(e:(Ln.of l).ended=true)(t:(Ln.of l).text≠[])(m:fs.length≠16)(k:(Fd.of (Ln.of l).text).code=0):rH (f+1) l fs=rH f (l.drop (Ln.of l).size) (fs++[((Fd.of (Ln.of l).text).name,(Fd.of (Ln.of l).text).value)]):=by rw[rH,if_neg (by omega),if_neg (by rw[e];simp),if_neg t,if_neg m,if_neg (by omega)]
end Go.Proofs.YtjmndjmhjleabaaGreatDoor.Rq