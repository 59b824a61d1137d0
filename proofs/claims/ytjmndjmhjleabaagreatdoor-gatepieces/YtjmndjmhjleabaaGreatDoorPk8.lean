/- Small texts, one behind the other: PlainRB, PlainRC, PlainRD, PlainRE, PlainRF, PlainRK, PlainRpB. -/
import Derived.Test.YtjmndjmhjleabaaGreatDoorPlainRA
import Derived.Test.YtjmndjmhjleabaaGreatDoorPk4
namespace Go.Proofs.YtjmndjmhjleabaaGreatDoor.Rq
def Apart:List Ev->Prop
 | .body _::_=>False
 | _=>True
theorem Kh {a:List UInt8}{r:List Ev}(h:Apart (join r)):join (.body a::r)=.body a::join r:=by
 rw[join];cases hj:join r with
 | nil=>rfl
 | cons e q => cases e with
   | body b=>rw[hj] at h;exact absurd h (fun h=>h)
   | head h=>rfl
   | fin=>rfl
   | fail c=>rfl
theorem Ki {a b:List UInt8}{r:List Ev}:join (.body a::.body b::r)=join (.body (a++b)::r):=by
 have e:∀x:List UInt8,join (.body x::r)=match join r with | .body y::q=>.body (x++y)::q | q=>.body x::q:=fun x=>by
  rw[join];cases join r with
  | nil=>rfl
  | cons e q=>cases e <;> rfl
 rw[join,e b,e (a++b)];cases hj:join r with
 | nil=>rfl
 | cons e q => cases e with
   | body y=>simp
   | head h=>rfl
   | fin=>rfl
   | fail c=>rfl
theorem l6:∀(l:List UInt8) (s:St),s.ph=4->outs s l=[]∧fold s l=s
 | [],s,_=>⟨rfl,rfl⟩
 | c :: t, s, h => by
   have e:next s c=(s,[]):=by unfold next;rw[if_pos h]
   have ih:=l6 t s h;constructor
   . show(next s c).2++outs (next s c).1 t=[];rw[e];exact ih.1
   . show fold (next s c).1 t=s;rw[e];exact ih.2
def Joined:List Ev->Prop
 | []=>True
 | .body _::r=>Apart r∧Joined r
 | _::r=>Joined r
theorem fZ:∀l:List Ev,Joined (join l)
 | []=>trivial
 | .head h::r=>by rw[join];exact fZ r
 | .fin::r=>by rw[join];exact fZ r
 | .fail c::r=>by rw[join];exact fZ r
 | .body a :: r => by
   have ih:=fZ r;rw[join];cases hj:join r with
   | nil=>exact⟨trivial,trivial⟩
   | cons e q =>
     rw[hj] at ih;cases e with
     | body b=>exact ih
     | head h=>exact⟨trivial,ih⟩
     | fin=>exact⟨trivial,ih⟩
     | fail c=>exact⟨trivial,ih⟩
theorem bO:∀l:List Ev,Joined l->join l=l
 | [],_=>rfl
 | .head h::r,k=>by rw[join,bO r k]
 | .fin::r,k=>by rw[join,bO r k]
 | .fail c::r,k=>by rw[join,bO r k]
 | .body a :: r, k => by
   have e:=bO r k.2;rw[Kh (by rw[e];exact k.1),e]
theorem join_join (l:List Ev):join (join l)=join l:=bO _ (fZ l)
theorem kI:∀(a b:List Ev),join (a++join b)=join (a++b)
 | [],b=>join_join b
 | .head h::r,b=>by rw[List.cons_append,List.cons_append,join,join,kI r b]
 | .fin::r,b=>by rw[List.cons_append,List.cons_append,join,join,kI r b]
 | .fail c::r,b=>by rw[List.cons_append,List.cons_append,join,join,kI r b]
 | .body x::r,b=>by rw[List.cons_append,List.cons_append,join,join,kI r b]
theorem join_cons (x:List UInt8)(l r:List Ev)(h:join l=join r):join (.body x::l)=join (.body x::r):=by rw[join,join,h]
theorem j5:∀(a b:List Ev),join (join a++b)=join (a++b)
 | [],b=>rfl
 | .head h::r,b=>by rw[join,List.cons_append,List.cons_append,join,join,j5 r b]
 | .fin::r,b=>by rw[join,List.cons_append,List.cons_append,join,join,j5 r b]
 | .fail c::r,b=>by rw[join,List.cons_append,List.cons_append,join,join,j5 r b]
 | .body x :: r, b => by
   have ih:=j5 r b;have e1:join (.body x::(join r++b))=join (.body x::(r++b)):=join_cons x _ _ ih;rw[List.cons_append,<-e1];have e2:join (.body x::r)=match join r with | .body y::q=>.body (x++y)::q | q=>.body x::q:=by
    rw[join];cases join r with
    | nil=>rfl
    | cons e q=>cases e <;> rfl
   rw[e2];cases join r with
   | nil=>rfl
   | cons e q => cases e with
     | body y =>
       show join (.body (x++y)::(q++b))=join (.body x::.body y::(q++b))
       rw[Ki]
     | head h=>rfl
     | fin=>rfl
     | fail c=>rfl
theorem Jk:∀(m w:List UInt8),(∀b∈m,b≠32)->cut w m=[w++m]
 | [],w,_=>by simp[cut]
 | c :: t, w, h => by
   rw[cut,if_neg (h c (List.mem_cons_self ..)),Jk t (w++[c]) (fun b hb=>h b (List.mem_cons_of_mem _ hb))];simp
theorem xC:∀(m w t:List UInt8),(∀b∈m,b≠32)->cut w (m++32::t)=(w++m)::cut [] t
 | [],w,t,_=>by simp[cut]
 | c :: m, w, t, h => by
   rw[List.cons_append,cut,if_neg (h c (List.mem_cons_self ..)),xC m (w++[c]) t (fun b hb=>h b (List.mem_cons_of_mem _ hb))];simp
theorem N7:∀(f n:Nat),n<10 ^ (f+1)->∀b∈Ch.bY f n,Ch.visible b.toNat=true∧Ch.ws.contains b=false:=by
 have key:∀j,j<10->∀b∈Ch.bY 0 j,Ch.visible b.toNat=true∧Ch.ws.contains b=false:=fun j hj=>(show ∀j:Fin 10,∀b∈Ch.bY 0 j.val,Ch.visible b.toNat=true∧Ch.ws.contains b=false by decide +kernel) ⟨j,hj⟩;intro f;induction f with
 | zero=>intro n h b hb;exact key n (by simpa using h) b hb
 | succ f ih =>
   intro n h b hb;unfold Ch.bY at hb;split at hb
   . rename_i hn;exact key n hn b hb
   . rw[List.mem_append] at hb;rcases hb with hb | hb
     . exact ih (n / 10) (by rw[Nat.pow_succ] at h;omega) b hb
     . exact key (n % 10) (by omega) b hb
def jN:List Ev->Bool
 | []=>false
 | [.body _]=>true
 | _::r=>jN r
def Ev.mQ:Ev->Bool
 | .body _=>true
 | _=>false
theorem jC:∀(l:List Ev) (e:Ev),Joined l->(e.mQ=true->jN l=false)->Joined (l++[e])
 | [],e,_,_=>by cases e <;> first | exact trivial | exact⟨trivial,trivial⟩
 | [x], e, hl, h => by
   cases x with
   | body a =>
     cases e with
     | body b=>exact absurd (h rfl) (by simp[jN])
     | head _=>exact⟨trivial,trivial⟩
     | fin=>exact⟨trivial,trivial⟩
     | fail _=>exact⟨trivial,trivial⟩
   | head _=>cases e <;> first | exact trivial | exact⟨trivial,trivial⟩
   | fin=>cases e <;> first | exact trivial | exact⟨trivial,trivial⟩
   | fail _=>cases e <;> first | exact trivial | exact⟨trivial,trivial⟩
 | x :: y :: r, e, hl, h => by
   have h':e.mQ=true->jN (y::r)=false:=fun k=>by
    have:=h k;cases x <;> exact this
   cases x with
   | body a=>exact⟨by have:=hl.1;cases y <;> exact this,jC (y::r) e hl.2 h'⟩
   | head _=>exact jC (y::r) e hl h'
   | fin=>exact jC (y::r) e hl h'
   | fail _=>exact jC (y::r) e hl h'
theorem Gb {l:List Ev}{e:Ev}(hl:Joined l)(h:e.mQ=true->jN l=false):join (l++[e])=l++[e]:=bO _ (jC l e hl h)
theorem jD:∀(l:List Ev) (a b:List UInt8),Joined (l++[.body a])->Joined (l++[.body b])
 | [],_,_,h=>h
 | [.body x],_,_,h=>absurd h.1 (fun k=>k)
 | .body x::y::r,a,b,h=>⟨by have:=h.1;cases y <;> exact this,jD (y::r) a b h.2⟩
 | .head _::r,a,b,h=>jD r a b h
 | .fin::r,a,b,h=>jD r a b h
 | .fail _::r,a,b,h=>jD r a b h
theorem DC {l:List Ev}{a b:List UInt8}(h:Joined (l++[.body a])):join (l++[.body a]++[.body b])=l++[.body (a++b)]:=by
 rw[List.append_assoc,<-kI];exact bO _ (jD l a (a++b) h)
theorem uT:∀(l:List Ev) (e:Ev),jN (l++[e])=e.mQ
 | [],e=>by cases e <;> rfl
 | x::[],e=>by cases x <;> cases e <;> rfl
 | x :: y :: r, e => by
   have:=uT (y::r) e;cases x <;> exact this
theorem rG:∀(l:List Ev),jN l=true->∃q a,l=q++[.body a]
 | [],h=>by cases h
 | [x], h => by
   cases x with
   | body a=>exact⟨[],a,rfl⟩
   | head _=>cases h
   | fin=>cases h
   | fail _=>cases h
 | x :: y :: r, h => by
   have:jN (y::r)=true:=by cases x <;> exact h
   obtain⟨q,a,e⟩:=rG (y::r) this;exact⟨x::q,a,by rw[e];rfl⟩
theorem DF (l a b:List Ev):join (join (l++a)++b)=join (l++(a++b)):=by rw[j5,List.append_assoc]
theorem tV (s:St)(l:List UInt8)(c:UInt8):outs s (l++[c])=outs s l++(next (fold s l) c).2:=by
 rw[fq];show _++((next (fold s l) c).2++[])=_;rw[List.append_nil]
theorem tT (s:St)(l:List UInt8)(c:UInt8):fold s (l++[c])=(next (fold s l) c).1:=by rw[eZ];rfl
structure jE (h:Hd):Prop where
 method:h.method.length<=200
 target:h.target.length<=200
 minor:h.minor<=1
 many:h.fields.length<=16
 fields:∀f∈h.fields,f.1.length<=200∧f.2.length<=200
structure Good (s:St):Prop where
 ph:s.ph<=4
 ln:Ln.Good s.ln
 lc:s.ln.code=0
 hd:s.ph=1->jE s.hd∧s.hd.length=0
 left:s.ph=2->0<s.left∧s.left<=4000
 ck:s.ph=3->Ck.Good s.ck∧s.ck.code=0∧s.ck.ph≠4
def Ev.mR:Ev->Prop
 | .head h=>jE h
 | _=>True
theorem Good.start:Good start:=⟨Nat.zero_le _,Ln.Good.start,rfl,(fun h=>by cases h),(fun h=>by cases h),(fun h=>by cases h)⟩
theorem BJ:∀(t w:List UInt8),(cut w t).length=t.count 32+1
 | [],w=>rfl
 | c :: t, w => by
   rw[cut];by_cases h:c=32
   . subst h;rw[if_pos rfl,List.length_cons,BJ t [],List.count_cons_self]
   . rw[if_neg h,BJ t,List.count_cons_of_ne (by simpa using h)]
theorem xD {c:UInt8}{t:List UInt8}(h:Fd.at_ c t<t.length):t=t.take (Fd.at_ c t)++c::t.drop (Fd.at_ c t+1):=by
 conv=>lhs;rw[<-List.take_append_drop (Fd.at_ c t) t,List.drop_eq_getElem_cons h,Fd.Bz h]
theorem free_at {c:UInt8}{t:List UInt8}:∀b∈t.take (Fd.at_ c t),b≠c:=by
 intro b hb;obtain⟨j,hj,rfl⟩:=List.mem_iff_getElem.1 hb;rw[List.length_take] at hj;rw[List.getElem_take];exact Fd.C9 (by omega) (by omega)
theorem DI {c:UInt8}{t:List UInt8}(h:0<t.count c):Fd.at_ c t<t.length:=by
 rcases Nat.lt_or_ge (Fd.at_ c t) t.length with g | g
 . exact g
 . have:=free_at (c:=c) (t:=t);rw[List.take_of_length_le g] at this;have h0:t.count c=0:=List.count_eq_zero.2 (fun k=>this c k rfl);omega
theorem xE {c:UInt8}{t:List UInt8}(h:Fd.at_ c t<t.length):t.count c=(t.drop (Fd.at_ c t+1)).count c+1:=by
 conv=>lhs;rw[xD h]
 rw[List.count_append,List.count_cons_self,List.count_eq_zero.2 (fun k=>free_at c k rfl)];omega
theorem Ay {t:List UInt8}(h:t.count 32=2):Fd.at_ 32 t<t.length∧Fd.at_ 32 (t.drop (Fd.at_ 32 t+1))<(t.drop (Fd.at_ 32 t+1)).length ∧
 cut [] t=[t.take (Fd.at_ 32 t),(t.drop (Fd.at_ 32 t+1)).take (Fd.at_ 32 (t.drop (Fd.at_ 32 t+1))),(t.drop (Fd.at_ 32 t+1)).drop (Fd.at_ 32 (t.drop (Fd.at_ 32 t+1))+1)]:=by
 have h1:=DI (c:=32) (t:=t) (by omega);have e1:=xE h1;have h2:=DI (c:=32) (t:=t.drop (Fd.at_ 32 t+1)) (by omega);have e2:=xE h2;refine⟨h1,h2,?_⟩;have s1:=xD h1;have s2:=xD h2;have h3:∀b∈(t.drop (Fd.at_ 32 t+1)).drop (Fd.at_ 32 (t.drop (Fd.at_ 32 t+1))+1),b≠32:=fun b hb e=>by
  have:0<((t.drop (Fd.at_ 32 t+1)).drop (Fd.at_ 32 (t.drop (Fd.at_ 32 t+1))+1)).count 32:=List.count_pos_iff.2 (e▸hb);omega
 conv=>lhs;rw[s1]
 rw[xC _ [] _ free_at,s2,xC _ [] _ free_at,Jk _ [] h3];simp only[List.nil_append];rw[<-s2]
theorem DJ {t:List UInt8}(h:t.count 32≠2):first t=.inl 5:=by
 have:=BJ t [];unfold first;split
 . rename_i e;rw[e] at this;simp at this;omega
 . rfl
def BK (m g v:List UInt8):Nat ⊕ Hd :=
 if Ch.isToken m=false then .inl 6
 else if g.head?≠some 47∨9∈g then .inl 5
 else if v=[72,84,84,80,47,49,46,49] then .inr ⟨m,g,1,[],0⟩
 else if v=[72,84,84,80,47,49,46,48] then .inr ⟨m,g,0,[],0⟩
 else .inl 11
theorem uU {t:List UInt8}(h:t.count 32=2):first t=BK (t.take (Fd.at_ 32 t)) ((t.drop (Fd.at_ 32 t+1)).take (Fd.at_ 32 (t.drop (Fd.at_ 32 t+1)))) ((t.drop (Fd.at_ 32 t+1)).drop (Fd.at_ 32 (t.drop (Fd.at_ 32 t+1))+1)):=by
 unfold first;rw[(Ay h).2.2];rfl
theorem Gd {t:List UInt8}{h:Hd}(ht:t.length<=200)(e:first t=.inr h):jE h∧h.length=0:=by
 by_cases hc:t.count 32=2
 . rw[uU hc] at e;unfold BK at e;have l1:(t.take (Fd.at_ 32 t)).length<=200:=by rw[List.length_take];omega
   have l2:((t.drop (Fd.at_ 32 t+1)).take (Fd.at_ 32 (t.drop (Fd.at_ 32 t+1)))).length<=200:=by rw[List.length_take,List.length_drop];omega
   split at e
   . cases e
   . split at e
     . cases e
     . split at e
       . injection e with e;subst e;exact⟨⟨l1,l2,Nat.le_refl _,Nat.zero_le _,fun f hf=>by cases hf⟩,rfl⟩
       . split at e
         . injection e with e;subst e;exact⟨⟨l1,l2,Nat.zero_le _,Nat.zero_le _,fun f hf=>by cases hf⟩,rfl⟩
         . cases e
 . rw[DJ hc] at e;cases e
theorem DK:∀(f:List UInt8) (l:List (List UInt8)) (n k:Int),0<=n->sizes f n l=.inr k->0<=k
 | f,[],n,k,h0,e=>by injection e with e;omega
 | f, v :: t, n, k, h0, e => by
   rw[sizes] at e;split at e
   . cases e
   . split at e
     . cases e
     . refine DK f t _ k ?_ e;have:(Ch.number 10 9 v).1=0∨(Ch.number 10 9 v).1=Ch.numOf 10 v∧v.all (Ch.Af 10)=true∧v.length<=9:=by
        by_cases g1:v=[]∨(9:Int)<v.length
        . rw[Ch.mJ 10 9 v g1];exact Or.inl rfl
        . cases g2:v.all (Ch.Af 10)
          . rw[Ch.tq 10 9 v g2];exact Or.inl rfl
          . rw[Ch.qG 10 9 v (fun e=>g1 (Or.inl e)) (fun e=>g1 (Or.inr e)) g2];exact Or.inr ⟨rfl,rfl,by omega⟩
       rcases this with g | ⟨g,g2,g3⟩
       . omega
       . rw[g];exact(Ch.lq 10 (by omega) (by omega) v g2 g3).1
theorem Az {h:Hd}{k:Int}(e:len h=.inr k):k=-1∨0<=k∧k<=4000:=by
 unfold len at e;split at e
 . cases e
 . split at e
   . split at e
     . cases e
     . split at e
       . cases e
       . injection e with e;exact Or.inl e.symm
   . split at e
     . cases e
     . rename_i n hn;split at e
       . cases e
       . injection e with e;subst e;exact Or.inr ⟨DK _ _ 0 _ (by omega) hn,by omega⟩
theorem Good.dead {s:St}(h:Good s):Good (dead s):=⟨Nat.le_refl _,h.ln,h.lc,(fun e=>by cases e),(fun e=>by cases e),(fun e=>by cases e)⟩
theorem Good.line {s:St}(h:Good s)(hp:s.ph=0∨s.ph=1)(t:List UInt8)(ht:t.length<=200):Good (line s t).1∧∀e∈(line s t).2,e.mR:=by
 unfold Rq.line;by_cases h0:s.ph=0
 . rw[if_pos h0];by_cases hn:t=[]
   . rw[if_pos hn];exact⟨h,fun e he=>by cases he⟩
   . rw[if_neg hn];cases hf:first t with
     | inl c=>exact⟨h.dead,fun e he=>by simp at he;subst he;exact trivial⟩
     | inr hd=>exact⟨⟨by show 1<=4;omega,h.ln,h.lc,fun _=>Gd ht hf,(fun e=>by cases e),(fun e=>by cases e)⟩,fun e he=>by cases he⟩
 . rw[if_neg h0];obtain⟨hg,hl0⟩:=h.hd (by omega);have hH:∀k:Int,jE { s.hd with length:=k }:=fun k=>⟨hg.method,hg.target,hg.minor,hg.many,hg.fields⟩;by_cases hn:t=[]
   . rw[if_pos hn];cases hk:len s.hd with
     | inl c=>exact⟨h.dead,fun e he=>by simp at he;subst he;exact trivial⟩
     | inr k =>
       have hr:=Az hk;simp only;by_cases k0:k=0
       . rw[if_pos k0];refine⟨⟨Nat.zero_le _,h.ln,h.lc,(fun e=>by cases e),(fun e=>by cases e),(fun e=>by cases e)⟩,fun e he=>?_⟩;simp at he;rcases he with rfl | rfl
         . exact hH k
         . exact trivial
       . rw[if_neg k0];by_cases k1:0<k
         . rw[if_pos k1];refine⟨⟨by show 2<=4;omega,h.ln,h.lc,(fun e=>by cases e),fun _=>⟨by show 0<k.toNat;omega,by show k.toNat<=4000;omega⟩,(fun e=>by cases e)⟩,fun e he=>?_⟩;simp at he;subst he;exact hH k
         . rw[if_neg k1];refine⟨⟨by show 3<=4;omega,h.ln,h.lc,(fun e=>by cases e),(fun e=>by cases e),fun _=>⟨Ck.Good.start,rfl,by show(0:Nat)≠4;omega⟩⟩,fun e he=>?_⟩;simp at he;subst he;exact hH k
   . rw[if_neg hn];split
     . exact⟨h.dead,fun e he=>by simp at he;subst he;exact trivial⟩
     . rename_i h16;split
       . exact⟨h.dead,fun e he=>by simp at he;subst he;exact trivial⟩
       . have:=Fd.Aw t;refine⟨⟨h.ph,h.ln,h.lc,fun _=>⟨⟨hg.method,hg.target,hg.minor,?_,fun f hf=>?_⟩,hl0⟩,h.left,h.ck⟩,fun e he=>by cases he⟩
         . have:=hg.many;show(s.hd.fields++[((Fd.of t).name,(Fd.of t).value)]).length<=16;rw[List.length_append];simp;omega
         . rcases List.mem_append.1 hf with hf | hf
           . exact hg.fields f hf
           . simp at hf;subst hf;exact⟨Nat.le_trans this.1 ht,Nat.le_trans this.2 ht⟩
theorem mU {s:Ln.St}{c:UInt8}(h:Ln.Good s):(Ln.text s c).length<=200∧∀b∈Ln.text s c,Ch.visible b.toNat=true:=by
 unfold Ln.text;split
 . exact⟨h.short,h.seen⟩
 . exact⟨Nat.zero_le _,fun b hb=>by cases hb⟩
theorem Good.next {s:St}(h:Good s)(c:UInt8):Good (next s c).1∧∀e∈(next s c).2,e.mR:=by
 have h0:Good { s with ph:=0 }:=⟨Nat.zero_le _,h.ln,h.lc,(fun e=>by cases e),(fun e=>by cases e),(fun e=>by cases e)⟩;unfold Rq.next;split
 . exact⟨h,fun e he=>by cases he⟩
 . split
   . rename_i h2;obtain⟨l1,l2⟩:=h.left h2;split
     . refine⟨⟨Nat.zero_le _,h.ln,h.lc,(fun e=>by cases e),(fun e=>by cases e),(fun e=>by cases e)⟩,fun e he=>?_⟩;simp at he;rcases he with rfl | rfl <;> exact trivial
     . refine⟨⟨h.ph,h.ln,h.lc,h.hd,fun _=>⟨by show 0<s.left-1;omega,by show s.left-1<=4000;omega⟩,h.ck⟩,fun e he=>?_⟩;simp at he;subst he;exact trivial
   . split
     . rename_i h3;obtain⟨k1,k2,k3⟩:=h.ck h3;split
       . exact⟨h.dead,fun e he=>by simp at he;subst he;exact trivial⟩
       . split
         . exact⟨h0,fun e he=>by simp at he;subst he;exact trivial⟩
         . rename_i hA hB;refine⟨⟨h.ph,h.ln,h.lc,h.hd,h.left,fun _=>⟨k1.next c,by show(Ck.next s.ck c).code=0;omega,hB⟩⟩,fun e he=>?_⟩;unfold some_ at he;split at he
           . cases he
           . simp at he;subst he;exact trivial
     . rename_i h4 h2 h3;have hp:=h.ph;split
       . exact⟨h.dead,fun e he=>by simp at he;subst he;exact trivial⟩
       . split
         . have hs:Good { s with ln:=Ln.start }:=⟨h.ph,Ln.Good.start,rfl,h.hd,h.left,h.ck⟩;exact hs.line (by show s.ph=0∨s.ph=1;omega) _ (mU h.ln).1
         . exact⟨⟨h.ph,Ln.o7 h.ln,by rename_i a _;show(Ln.next s.ln c).code=0;omega,h.hd,h.left,h.ck⟩,fun e he=>by cases he⟩
theorem Good.fold:∀(l:List UInt8) {s:St},Good s->Good (fold s l)
 | [],_,h=>h
 | c::t,s,h=>Good.fold t (s:=(Rq.next s c).1) (h.next c).1
theorem ko:∀(l:List UInt8) {s:St},Good s->∀e∈outs s l,e.mR
 | [],_,_=>fun e he=>by cases he
 | c :: t, s, h => fun e he => by
   rcases List.mem_append.1 he with he | he
   . exact(h.next c).2 e he
   . exact ko t (h.next c).1 e he
theorem je:∀(l:List Ev),(∀e∈l,e.mR)->∀e∈join l,e.mR
 | [],_=>fun e he=>by cases he
 | .head h :: r, k => fun e he => by
   rw[join] at he;rcases List.mem_cons.1 he with rfl | he
   . exact k _ (List.mem_cons_self ..)
   . exact je r (fun x hx=>k x (List.mem_cons_of_mem _ hx)) e he
 | .fin :: r, k => fun e he => by
   rw[join] at he;rcases List.mem_cons.1 he with rfl | he
   . exact trivial
   . exact je r (fun x hx=>k x (List.mem_cons_of_mem _ hx)) e he
 | .fail c :: r, k => fun e he => by
   rw[join] at he;rcases List.mem_cons.1 he with rfl | he
   . exact trivial
   . exact je r (fun x hx=>k x (List.mem_cons_of_mem _ hx)) e he
 | .body a :: r, k => fun e he => by
   have ih:=je r (fun x hx=>k x (List.mem_cons_of_mem _ hx));rw[join] at he;cases hj:join r with
   | nil=>rw[hj] at he;simp at he;subst he;exact trivial
   | cons y q =>
     rw[hj] at he ih;cases y with
     | body b =>
       rcases List.mem_cons.1 he with rfl | he
       . exact trivial
       . exact ih e (List.mem_cons_of_mem _ he)
     | head h =>
       rcases List.mem_cons.1 he with rfl | he
       . exact trivial
       . exact ih e he
     | fin =>
       rcases List.mem_cons.1 he with rfl | he
       . exact trivial
       . exact ih e he
     | fail c =>
       rcases List.mem_cons.1 he with rfl | he
       . exact trivial
       . exact ih e he
def bV:List Ev->Nat
 | []=>0
 | .body a::r=>a.length+bV r
 | _::r=>bV r
def Full (l:List Ev):Prop:=∀a,Ev.body a∈l->a≠[]
theorem gD:∀a b:List Ev,bV (a++b)=bV a+bV b
 | [],b=>by simp[bV]
 | .body x::r,b=>by rw[List.cons_append,bV,bV,gD r b];omega
 | .head _::r,b=>gD r b
 | .fin::r,b=>gD r b
 | .fail _::r,b=>gD r b
theorem ku:∀l:List Ev,bV (join l)=bV l
 | []=>rfl
 | .head _::r=>by rw[join];exact ku r
 | .fin::r=>by rw[join];exact ku r
 | .fail _::r=>by rw[join];exact ku r
 | .body a :: r => by
   have ih:=ku r;rw[join];cases hj:join r with
   | nil=>rw[hj] at ih;simp only[bV] at ih ⊢;omega
   | cons e q =>
     rw[hj] at ih;cases e with
     | body b=>simp only[bV,List.length_append] at ih ⊢;omega
     | head _=>simp only[bV] at ih ⊢;omega
     | fin=>simp only[bV] at ih ⊢;omega
     | fail _=>simp only[bV] at ih ⊢;omega
theorem join_length:∀l:List Ev,(join l).length<=l.length
 | []=>Nat.le_refl _
 | .head _::r=>by rw[join,List.length_cons,List.length_cons];have:=join_length r;omega
 | .fin::r=>by rw[join,List.length_cons,List.length_cons];have:=join_length r;omega
 | .fail _::r=>by rw[join,List.length_cons,List.length_cons];have:=join_length r;omega
 | .body a :: r => by
   have ih:=join_length r;rw[join];cases hj:join r with
   | nil=>rw[hj] at ih;simp only[List.length_cons,List.length_nil] at ih ⊢;omega
   | cons e q =>
     rw[hj] at ih;cases e <;> simp only[List.length_cons] at ih ⊢ <;> omega
theorem kC:∀l:List Ev,Full l->Full (join l)
 | [],h=>h
 | .head _ :: r, h => by
   have ih:=kC r (fun a ha=>h a (List.mem_cons_of_mem _ ha));rw[join];intro a ha;rcases List.mem_cons.1 ha with ha | ha
   . cases ha
   . exact ih a ha
 | .fin :: r, h => by
   have ih:=kC r (fun a ha=>h a (List.mem_cons_of_mem _ ha));rw[join];intro a ha;rcases List.mem_cons.1 ha with ha | ha
   . cases ha
   . exact ih a ha
 | .fail _ :: r, h => by
   have ih:=kC r (fun a ha=>h a (List.mem_cons_of_mem _ ha));rw[join];intro a ha;rcases List.mem_cons.1 ha with ha | ha
   . cases ha
   . exact ih a ha
 | .body x :: r, h => by
   have ih:=kC r (fun a ha=>h a (List.mem_cons_of_mem _ ha));have hx:x≠[]:=h x (List.mem_cons_self ..);rw[join];cases hj:join r with
   | nil =>
     intro a ha;simp at ha;subst ha;exact hx
   | cons e q =>
     rw[hj] at ih;have hone:∀a,Ev.body a∈Ev.body x::e::q->a≠[]:=fun a ha=>by
      rcases List.mem_cons.1 ha with ha | ha
      . injection ha with ha;subst ha;exact hx
      . exact ih a ha
     cases e with
     | body b =>
       intro a ha;rcases List.mem_cons.1 ha with ha | ha
       . injection ha with ha;subst ha;simp[hx]
       . exact ih a (List.mem_cons_of_mem _ ha)
     | head _=>exact hone
     | fin=>exact hone
     | fail _=>exact hone
theorem u7 {a b:List Ev}(h:Full a)(k:Full b):Full (a++b):=fun x hx=>by
 rcases List.mem_append.1 hx with hx | hx
 . exact h x hx
 . exact k x hx
theorem OD (s:St)(t:List UInt8):(line s t).2.length<=2∧bV (line s t).2=0∧Full (line s t).2:=by
 have hf:∀c,([Ev.fail c]:List Ev).length<=2∧bV [Ev.fail c]=0∧Full [Ev.fail c]:=fun c=>⟨by simp,rfl,fun a ha=>by simp at ha⟩;have h0:([]:List Ev).length<=2∧bV []=0∧Full []:=⟨by simp,rfl,fun a ha=>by cases ha⟩;unfold line;split
 . split
   . exact h0
   . split
     . exact hf _
     . exact h0
 . split
   . split
     . exact hf _
     . split
       . exact⟨by simp,rfl,fun a ha=>by simp at ha⟩
       . split
         . exact⟨by simp,rfl,fun a ha=>by simp at ha⟩
         . exact⟨by simp,rfl,fun a ha=>by simp at ha⟩
   . split
     . exact hf _
     . split
       . exact hf _
       . exact h0
theorem OE (s:St)(c:UInt8):(next s c).2.length<=2∧bV (next s c).2<=1∧Full (next s c).2:=by
 have hf:∀c,([Ev.fail c]:List Ev).length<=2∧bV [Ev.fail c]<=1∧Full [Ev.fail c]:=fun c=>⟨by simp,Nat.zero_le _,fun a ha=>by simp at ha⟩;have h0:([]:List Ev).length<=2∧bV []<=1∧Full []:=⟨by simp,Nat.zero_le _,fun a ha=>by cases ha⟩;unfold next;split
 . exact h0
 . split
   . split
     . exact⟨by simp,by simp[bV],fun a ha=>by simp at ha;subst ha;simp⟩
     . exact⟨by simp,by simp[bV],fun a ha=>by simp at ha;subst ha;simp⟩
   . split
     . split
       . exact hf _
       . split
         . exact⟨by simp,Nat.zero_le _,fun a ha=>by simp at ha⟩
         . have:=Ck.Rj s.ck c;unfold some_;split
           . exact h0
           . rename_i hne;exact⟨by simp,by simp only[bV];omega,fun a ha=>by simp at ha;subst ha;exact hne⟩
     . split
       . exact hf _
       . split
         . have:=OD { s with ln:=Ln.start } (Ln.text s.ln c);exact⟨this.1,by omega,this.2.2⟩
         . exact h0
theorem iO:∀(l:List UInt8) (s:St),(outs s l).length<=2*l.length∧bV (outs s l)<=l.length∧Full (outs s l)
 | [],s=>⟨by simp[outs],by simp[outs,bV],fun a ha=>by cases ha⟩
 | c :: t, s => by
   have h1:=OE s c;have h2:=iO t (next s c).1;rw[outs,List.length_append,gD,List.length_cons];exact⟨by omega,by omega,u7 h1.2.2 h2.2.2⟩
theorem JB (s:St)(l:List UInt8):(join (outs s l)).length<=2*l.length∧bV (join (outs s l))<=l.length∧Full (join (outs s l))∧Joined (join (outs s l)):=by
 have h:=iO l s;have hl:=join_length (outs s l);exact⟨by omega,by rw[ku];exact h.2.1,kC _ h.2.2,fZ _⟩
end Go.Proofs.YtjmndjmhjleabaaGreatDoor.Rq
namespace Go.Proofs.YtjmndjmhjleabaaGreatDoor.Rp
def Y0:List UInt8:=[67,111,110,116,101,110,116,45,76,101,110,103,116,104]
theorem JL {n:Nat}(h:n<1000000000):(Fd.text Y0 (Ch.bY 8 n)).2=0∧(Fd.text Y0 (Ch.bY 8 n)).1=cl++Ch.bY 8 n:=by
 have hf:=Rq.N7 8 n h;have hl:=Ch.dA 8 n;have hk:Y0.length=14:=rfl;unfold Fd.text;rw[if_neg (by decide),if_neg (by rw[hk];omega),if_neg]
 . exact⟨rfl,rfl⟩
 . rintro (e | e)
   . have:Ch.aP (Ch.bY 8 n)=true:=List.all_eq_true.2 fun b hb=>(hf b hb).1;rw[this] at e;cases e
   . exact e (Ck.Kg fun b hb=>(hf b hb).2)
end Go.Proofs.YtjmndjmhjleabaaGreatDoor.Rp