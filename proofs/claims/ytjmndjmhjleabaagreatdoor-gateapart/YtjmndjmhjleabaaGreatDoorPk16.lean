/- Small texts, one behind the other: PlainHA, PlainHB, PlainHF, PlainHC, PlainHD, PlainHE, PlainHV, PlainHW, PlainGA, PlainGB, PlainGC, PlainHS, PlainHT, PlainHU, PlainGD, PlainGE. -/
import Derived.Test.YtjmndjmhjleabaaGreatDoorPk1
import Derived.Test.YtjmndjmhjleabaaGreatDoorPk8
import Derived.Test.YtjmndjmhjleabaaGreatDoorPk12
open Option renaming none->U,some->M
open Bool renaming false->F
namespace Go.Proofs.YtjmndjmhjleabaaGreatDoor.Fm
def stroke (c:UInt8):Bool:=c==47||c==92
def tail (l:au):au:=(l.reverse.takeWhile fun c=>!stroke c).reverse
def dirty (c:UInt8):Bool:=c==9||c==34||c==58||!Ch.visible c.toNat
def zC (c:UInt8):UInt8:=if dirty c then 95 else c
def Hf (l:au):au:=l.dropWhile (·==46)
def BA:au:=[102,105,108,101]
def named (l:au):au:=if l=[] then BA else l
def safe (l:au):au:=named ((Hf ((tail l).map zC)).take 40)
def dec:au->Option (au)
 | []=>M []
 | c :: t => if c = 37 then (match t with
     | a::b::r=>if 0<=Ch.hex a.toNat∧0<=Ch.hex b.toNat then (dec r).map ((16*Ch.hex a.toNat+Ch.hex b.toNat).toNat.toUInt8::·) else U
     | _=>U)
  else (dec t).map (c::·)
def ad3:au:=[117,116,102,45,56,39,39]
def coded (l:au):Option (au):=if l.length<7∨Ch.lower (l.take 7)≠ad3 then U else dec (l.drop 7)
def get (n:au)(ps:List Pm.tK):Option (au):=(ps.find? fun p=>p.1==n).map (·.2)
def KF:au:=[110,97,109,101]
def Nr:au:=[102,105,108,101,110,97,109,101]
def Jb:au:=[102,105,108,101,110,97,109,101,42]
def Hg:au:=[102,111,114,109,45,100,97,116,97]
def Vz:au:=[99,111,110,116,101,110,116,45,100,105,115,112,111,115,105,116,105,111,110]
def nType:au:=[99,111,110,116,101,110,116,45,116,121,112,101]
def file (ps:List Pm.tK):Option (au) :=
 match get Jb ps with
 | some x=>(coded x).map safe
 | none => match get Nr ps with
   | some x=>M (safe x)
   | none=>M []
structure YT where
 name:au
 file:au
 type:au
def one:List (au)->au×Nat
 | []=>([],10)
 | [v]=>(v,0)
 | _=>([],9)
def qg (d t:au×Nat):Nat ⊕ YT :=
 if d.2≠0 then .inl d.2
 else match Pm.kr d.1 with
  | .inl c=>.inl c
  | .inr x => if x.1 ≠ Hg then .inl 11
    else match get KF x.2 with
     | none=>.inl 6
     | some nm => match file x.2 with
       | none=>.inl 5
       | some f=>if t.2=9 then .inl 9 else .inr ⟨nm,f,t.1⟩
def part (fs:List Rq.Fl):Nat ⊕ YT:=qg (one (Rq.vals fs Vz)) (one (Rq.vals fs nType))
def Qg (p:YT):iM:=⟨5,⟨#[]⟩,⟨#[]⟩,0,[],0,[],⟨p.name.toArray⟩,⟨p.file.toArray⟩,⟨p.type.toArray⟩,[],0⟩
def KG:iM:=⟨6,⟨#[]⟩,⟨#[]⟩,0,[],0,[],⟨#[]⟩,⟨#[]⟩,⟨#[]⟩,[],0⟩
def ad4:iM:=⟨3,⟨#[]⟩,⟨#[]⟩,0,[],0,[],⟨#[]⟩,⟨#[]⟩,⟨#[]⟩,[],0⟩
def VA (c:Nat):iM:=⟨4,⟨#[]⟩,⟨#[]⟩,0,[],0,[],⟨#[]⟩,⟨#[]⟩,⟨#[]⟩,[],(c:Int)⟩
def nS (l:au):List iM:=if l=[] then [] else [jX l]
structure St where
 place:Nat
 held:Nat
 ahead:Nat
 ln:Ln.St
 fields:List Rq.Fl
 parts:Nat
 code:Nat
def zero:St:=⟨0,0,0,Ln.start,[],0,0⟩
def start:St:=⟨0,2,2,Ln.start,[],0,0⟩
def failed (c:Nat):St:={ zero with code:=c }
def done:St:={ zero with place:=6 }
def live (s:St):Prop:=s.code=0∧s.place≠6
instance (s:St):Decidable (live s):=by unfold live;infer_instance
def turn (p:Nat)(c:UInt8):Nat×Nat :=
 if p=4 then (if c=10 then (5,0) else (0,2))
 else if p=2 then (if c=45 then (6,0) else (0,5))
 else if p=1∧c=45 then (2,0)
 else if c=32∨c=9 then (3,0)
 else if c=13 then (4,0)
 else (0,5)
def fails (c:Nat):St×List iM:=(failed c,[VA c])
def line (s:St)(t:au):St×List iM :=
 if t≠[] then
  if s.fields.length=16 then fails 8
  else if (Fd.of t).code≠0 then fails (Fd.of t).code
  else ({ s with fields:=s.fields++[((Fd.of t).name,(Fd.of t).value)] },[])
 else match part s.fields with
  | .inl c=>fails c
  | .inr p=>if s.parts=12 then fails 8 else ({ s with fields:=[],parts:=s.parts+1,place:=0,held:=2,ahead:=2 },[Qg p])
def next (m:au)(s:St)(c:UInt8):St×List iM :=
 if ¬live s then (s,[])
 else if s.place=0 then
  ({ s with held := Sk.after m s.held c, ahead := s.ahead-(Sk.out m s.held c).length, place := if Sk.found m s.held c then 1 else 0 },
   if 0<s.parts then nS ((Sk.out m s.held c).drop s.ahead)++(if Sk.found m s.held c then [KG] else []) else [])
 else if s.place=5 then
  if (Ln.next s.ln c).code≠0 then fails (Ln.next s.ln c).code
  else if Ln.ends s.ln c then line { s with ln:=Ln.next s.ln c } (Ln.text s.ln c)
  else ({ s with ln:=Ln.next s.ln c },[])
 else if (turn s.place c).2≠0 then fails (turn s.place c).2
 else if (turn s.place c).1=6 then (done,[ad4])
 else ({ s with place:=(turn s.place c).1 },[])
def fold (m:au):St->au->St
 | s,[]=>s
 | s,c::t=>fold m (next m s c).1 t
def outs (m:au):St->au->List iM
 | _,[]=>[]
 | s,c::t=>(next m s c).2++outs m (next m s c).1 t
def close (s:St):Nat:=if s.code=0∧s.place≠6 then 14 else s.code
def mark (b:au):au:=13::10::45::45::b
def lJ (b:au):Bool:=!b.isEmpty&&decide (b.length<=70)&&Ch.iw b&&decide (Lib.trimS b Ch.ws=b)
theorem jL (m:au):∀(a b:au) (s:St),fold m s (a++b)=fold m (fold m s a) b
 | [],_,_=>rfl
 | _::t,b,_=>jL m t b _
theorem jE (m:au):∀(a b:au) (s:St),outs m s (a++b)=outs m s a++outs m (fold m s a) b
 | [],_,_=>rfl
 | c :: t, b, s => by
   show(next m s c).2++outs m (next m s c).1 (t++b)=_;rw[jE m t b];show _=((next m s c).2++outs m (next m s c).1 t)++_;rw[dS];rfl
theorem oI (m:au)(s:St)(l:au)(c:UInt8):fold m s (l++[c])=(next m (fold m s l) c).1:=by rw[jL];rfl
theorem AL (m:au)(s:St)(l:au)(c:UInt8):outs m s (l++[c])=outs m s l++(next m (fold m s l) c).2:=by
 rw[jE];show _++(_++[])=_;rw[bV]
theorem Ru {m:au}{s:St}(h:¬live s)(c:UInt8):next m s c=(s,[]):=by unfold next;rw[if_pos h]
theorem lS {m:au}:∀(l:au) {s:St},¬live s->outs m s l=[]∧fold m s l=s
 | [],_,_=>⟨rfl,rfl⟩
 | c :: t, s, h => by
   have a:=lS (m:=m) t h;show(next m s c).2++outs m (next m s c).1 t=[]∧fold m (next m s c).1 t=s;rw[Ru h];exact a
structure Td where
 es:List iM
 bs:au
def flush (t:Td):List iM:=t.es++nS t.bs
def tell (t:Td)(e:iM):Td:=if e.kind=2 then ⟨t.es,t.bs++e.bytes⟩ else ⟨flush t++[e],[]⟩
def tells (t:Td)(l:List iM):Td:=l.foldl tell t
def FU:Td:=⟨[],[]⟩
def Clean (l:List iM):Prop:=∀e∈l,e.kind=2->e=jX e.bytes∧e.bytes≠[]
theorem Clean.append {a b:List iM}(h:Clean a)(k:Clean b):Clean (a++b):=fun e c=>by
 rcases bA.1 c with c | c
 . exact h e c
 . exact k e c
theorem clean_nil:Clean []:=fun e a=>by cases a
theorem KH (l:au):Clean (nS l):=by
 unfold nS;split
 . exact clean_nil
 . rename_i h;intro e a _;rw[bB.1 a];exact⟨rfl,h⟩
theorem xB {e:iM}(h:e.kind≠2):Clean [e]:=fun x a k=>by rw[bB.1 a] at k;exact absurd k h
theorem nT (c:Nat):Clean (fails c).2:=xB (by show(4:Int)≠2;decide)
theorem Ns (s:St)(t:au):Clean (line s t).2:=by
 unfold line;split
 . split
   . exact nT _
   . split
     . exact nT _
     . exact clean_nil
 . split
   . exact nT _
   . split
     . exact nT _
     . exact xB (by show(5:Int)≠2;decide)
theorem Nt (m:au)(s:St)(c:UInt8):Clean (next m s c).2:=by
 unfold next;split
 . exact clean_nil
 . split
   . show Clean (if 0<s.parts then _ else _);split
     . refine Clean.append (KH _) ?_;split
       . exact xB (by decide)
       . exact clean_nil
     . exact clean_nil
   . split
     . split
       . exact nT _
       . split
         . exact Ns _ _
         . exact clean_nil
     . split
       . exact nT _
       . split
         . exact xB (by decide)
         . exact clean_nil
theorem yM (m:au):∀(l:au) (s:St),Clean (outs m s l)
 | [],_=>clean_nil
 | c::t,s=>(Nt m s c).append (yM m t _)
theorem Nu (t:Td)(l:List iM)(e:iM):tells t (l++[e])=tell (tells t l) e:=by unfold tells;rw[fu];rfl
theorem zD (t:Td)(a b:List iM):tells t (a++b)=tells (tells t a) b:=by unfold tells;rw[fu]
theorem BD (l:List iM)(h:Clean l):flush (tells FU l)=lX l∧tailD (tells FU l).es=F:=by
 have:∀n (l:List iM),l.length=n->Clean l->flush (tells FU l)=lX l∧tailD (tells FU l).es=F:=by
  intro n;induction n with
  | zero=>intro l b _;rw[dn b];exact⟨rfl,rfl⟩
  | succ n j =>
    intro l b d;rcases bC l with rfl | ⟨q,x,rfl⟩
    . simp at b
    . rw[bE] at b d ⊢;obtain⟨g,c⟩:=j q (by simpa using b) (fun e k=>d e (bI _ k));rw[Nu,DI,<-g];generalize tells FU q=t at g c;obtain⟨es,bs⟩:=t;simp only at c;by_cases a:x.kind=2
      . obtain⟨m,f⟩:=d x (by simp) a;unfold tell;rw[if_pos a];refine⟨?_,c⟩;unfold flush nS;simp only;rw[if_neg (by simp[f])];by_cases i:bs=[]
        . subst i;rw[if_pos rfl,bV,mI _ _ (fun _=>c),dx,<-m]
        . rw[if_neg i,nM _ _ _ rfl a];rfl
      . unfold tell;rw[if_neg a];refine⟨?_,?_⟩
        . rw[mI _ _ (fun e=>absurd e a)];show(_++[x])++nS []=_;simp[nS]
        . show tailD (_++[x])=F;rw[rJ,aI a]
 exact this _ l rfl h
structure Good (m:au)(s:St):Prop where
 place:s.place<=6
 held:s.held<=m.length-1
 idle:s.place≠0->s.held=0
 ln:Ln.Good s.ln
 lc:s.ln.code=0
 many:s.fields.length<=16
 short:∀f∈s.fields,f.1.length<=200∧f.2.length<=200
 bare:s.place≠5->s.ln=Ln.start∧s.fields=[]
 parts:s.parts<=12
 code:s.code<=20
theorem Good.start {m:au}(b:3<=m.length):Good m start:=⟨ay _,by show 2<=_;omega,fun h=>absurd rfl h,Ln.Good.start,rfl,ay _,(fun f a=>by cases a),fun _=>⟨rfl,rfl⟩,ay _,ay _⟩
theorem Good.failed {m:au}{c:Nat}(a:c<=20):Good m (failed c):=⟨ay _,ay _,fun _=>rfl,Ln.Good.start,rfl,ay _,(fun f b=>by cases b),fun _=>⟨rfl,rfl⟩,ay _,a⟩
theorem Good.done {m:au}:Good m done:=⟨aL _,ay _,fun _=>rfl,Ln.Good.start,rfl,ay _,(fun f a=>by cases a),fun _=>⟨rfl,rfl⟩,ay _,ay _⟩
theorem VE (m:au)(h:Nat)(c:UInt8)(b:0<m.length):Sk.after m h c<=m.length-1:=by
 unfold Sk.after;split
 . exact ay _
 . rename_i a;have d:=Sk.Nq m h c;unfold Sk.found at a;rw[aH b,Bool.true_and,bQ] at a;omega
theorem DR {s:Ln.St}{c:UInt8}(h:Ln.ends s c=true):Ln.next s c=Ln.start:=by
 unfold Ln.ends at h;rw[bQ] at h;obtain⟨b,d,a⟩:=h;unfold Ln.next;rw[if_neg (by omega),if_neg (by omega),if_pos a];rfl
theorem VF (s:Ln.St)(c:UInt8):Ln.fault s c<=4:=by
 unfold Ln.fault;split
 . split
   . omega
   . split
     . omega
     . split <;> omega
 . omega
theorem Rw {s:Ln.St}(c:UInt8)(h:s.code=0):(Ln.next s c).code<=4:=by
 unfold Ln.next;rw[if_neg (by omega)];split
 . exact VF s c
 . split
   . exact ay _
   . split
     . show s.code<=4;omega
     . show s.code<=4;omega
theorem YV (t:au):(Fd.of t).code<=20:=by
 unfold Fd.of Fd.bad;repeat' split
 all_goals (first | exact ay _ | (simp only;omega) | decide)
theorem Qj (p:Nat)(c:UInt8):(turn p c).1<=6∧(turn p c).2<=20:=by
 unfold turn;repeat' split
 all_goals decide
theorem abC {r:au}{c:Nat}(h:Pm.val r=.inl c):c<=20:=by
 unfold Pm.val at h;repeat' split at h
 all_goals (first | cases h;done | (injection h with h;omega))
theorem abD {r:au}{c:Nat}(h:Pm.par r=.inl c):c<=20:=by
 unfold Pm.par at h;split at h
 . simp only[] at h;split at h
   . injection h with h;omega
   . split at h
     . split at h
       . rename_i a;injection h with h;subst h;exact abC a
       . cases h
     . injection h with h;omega
 . injection h with h;omega
theorem Qk:∀(n:Nat) (r:au) (a:List Pm.tK) (c:Nat),Pm.uF n r a=.inl c->c<=20
 | 0,r,a,c,h=>by rw[Pm.uF] at h;cases h
 | n + 1, r, a, c, h => by
   rw[Pm.uF] at h;split at h
   . cases h
   . split at h
     . rename_i b;injection h with h;subst h;exact abD b
     . split at h
       . injection h with h;omega
       . split at h
         . injection h with h;omega
         . exact Qk n _ _ c h
theorem VG {l:au}{c:Nat}(h:Pm.kr l=.inl c):c<=20:=by
 unfold Pm.kr at h;split at h
 . injection h with h;omega
 . split at h
   . rename_i a;injection h with h;subst h;unfold Pm.wrd at a;simp only[] at a;repeat' split at a
     all_goals (first | (injection a with a;omega) | (cases a;done))
   . unfold Pm.fin at h;split at h
     . rename_i b;injection h with h;subst h;exact Qk _ _ _ _ b
     . cases h
theorem YW {a:List Rq.Fl}{c:Nat}(h:part a=.inl c):c<=20:=by
 unfold part qg at h;split at h
 . injection h with h;subst h;unfold one;split <;> (first | exact ay _ | decide)
 . split at h
   . rename_i b;injection h with h;subst h;exact VG b
   . repeat' split at h
     all_goals (first | (injection h with h;omega) | (cases h;done))
theorem Good.line {m:au}{s:St}(h:Good m s)(i:3<=m.length)(c:s.place=5)(d:s.ln=Ln.start){t:au}(j:t.length<=200):Good m (line s t).1:=by
 unfold Fm.line;split
 . split
   . exact Good.failed (by omega)
   . split
     . exact Good.failed (YV t)
     . rename_i g a;have:=Fd.AO t;refine⟨h.place,h.held,h.idle,h.ln,h.lc,?_,fun f a=>?_,fun e=>absurd c e,h.parts,h.code⟩
       . have:=h.many;show(s.fields++[_]).length<=16;rw[aV];simp;omega
       . rcases bA.1 a with a | a
         . exact h.short f a
         . rw[bB.1 a];exact⟨by show(Fd.of t).name.length<=_;omega,by show(Fd.of t).value.length<=_;omega⟩
 . split
   . rename_i b;exact Good.failed (YW b)
   . split
     . exact Good.failed (by omega)
     . rename_i b;have:=h.parts;exact⟨ay _,by show 2<=_;omega,fun e=>absurd rfl e,h.ln,h.lc,ay _,(fun f a=>by cases a),fun _=>⟨d,rfl⟩,by show s.parts+1<=12;omega,h.code⟩
theorem Good.next {m:au}{s:St}(h:Good m s)(f:3<=m.length)(c:UInt8):Good m (next m s c).1:=by
 unfold Fm.next;split
 . exact h
 . split
   . rename_i b;refine⟨?_,VE m _ c (by omega),fun e=>?_,h.ln,h.lc,h.many,h.short,fun _=>h.bare (by omega),h.parts,h.code⟩
     . show(if _ then 1 else 0)<=6;split <;> omega
     . show Sk.after m s.held c=0;unfold Sk.after;cases g:Sk.found m s.held c
       . exfalso;exact e (by show(if Sk.found m s.held c then 1 else 0)=0;rw[g];rfl)
       . rfl
   . rename_i b;split
     . rename_i a;split
       . exact Good.failed (by have:=Rw c h.lc;omega)
       . rename_i j;have d:Good m { s with ln:=Ln.next s.ln c }:=⟨h.place,h.held,h.idle,Ln.tQ h.ln,by show(Ln.next s.ln c).code=0;omega,h.many,h.short,fun e=>absurd a e,h.parts,h.code⟩;split
         . rename_i i;exact d.line f a (DR i) (Rq.uJ h.ln).1
         . exact d
     . rename_i a;split
       . exact Good.failed (Qj _ _).2
       . split
         . exact Good.done
         . rename_i k l;exact⟨(Qj _ _).1,h.held,fun _=>h.idle b,h.ln,h.lc,h.many,h.short,fun _=>h.bare a,h.parts,h.code⟩
theorem Good.fold {m:au}(a:3<=m.length):∀(l:au) {s:St},Good m s->Good m (fold m s l)
 | [],_,h=>h
 | c::t,_,h=>Good.fold a t (h.next a c)
theorem yN (m:au)(h:Nat)(c:UInt8)(b:h<=m.length-1):(Sk.out m h c).length+Sk.after m h c<=h+1:=by
 cases a:Sk.found m h c
 . have d:=Sk.CY m h c;unfold Sk.after Sk.out;rw[a,if_neg (by simp),bX];simp;omega
 . rw[Sk.G9 a b];unfold Sk.after;rw[a];simp
theorem Ho (l:au):lI (nS l)=l.length:=by
 unfold nS;split
 . rename_i h;subst h;rfl
 . simp[lI,jX]
theorem VH (s:St)(t:au):lI (line s t).2=0∧(line s t).2.length<=1:=by
 unfold line;split
 . split
   . exact⟨rfl,aL _⟩
   . split
     . exact⟨rfl,aL _⟩
     . exact⟨rfl,ay _⟩
 . split
   . exact⟨rfl,aL _⟩
   . split
     . exact⟨rfl,aL _⟩
     . exact⟨rfl,aL _⟩
theorem Rx {s:St}(t:au)(a:s.held=0):(line s t).1.held<=2:=by
 unfold line;split
 . split
   . exact ay _
   . split
     . exact ay _
     . show s.held<=2;omega
 . split
   . exact ay _
   . split
     . exact ay _
     . exact aL _
theorem VI {m:au}{s:St}(h:Good m s)(c:UInt8):lI (next m s c).2+(next m s c).1.held<=s.held+2∧(next m s c).2.length<=2:=by
 unfold next;split
 . exact⟨by show 0+s.held<=_;omega,ay _⟩
 . split
   . have a:=yN m s.held c h.held;have b:lI (if Sk.found m s.held c then [KG] else [])=0:=by split <;> rfl
     have f:(if Sk.found m s.held c then [KG] else []).length<=1:=by split <;> simp
     have g:(nS ((Sk.out m s.held c).drop s.ahead)).length<=1:=by unfold nS;split <;> simp
     have i:((Sk.out m s.held c).drop s.ahead).length<=(Sk.out m s.held c).length:=by rw[bU];omega
     show lI (if 0<s.parts then _ else _)+Sk.after m s.held c<=_∧(if 0<s.parts then _ else _:List iM).length<=2;split
     . rw[mJ,b,Ho,aV];exact⟨by omega,by omega⟩
     . exact⟨by show 0+_<=_;omega,ay _⟩
   . split
     . rename_i d j;have e:=h.idle d;split
       . exact⟨by show 0+0<=_;omega,by show 1<=2;omega⟩
       . split
         . have a:=VH { s with ln:=Ln.next s.ln c } (Ln.text s.ln c);have k:=Rx (s:={ s with ln:=Ln.next s.ln c }) (Ln.text s.ln c) e;exact⟨by omega,by omega⟩
         . exact⟨by show 0+s.held<=_;omega,ay _⟩
     . split
       . exact⟨by show 0+0<=_;omega,by show 1<=2;omega⟩
       . split
         . exact⟨by show 0+0<=_;omega,by show 1<=2;omega⟩
         . exact⟨by show 0+s.held<=_;omega,ay _⟩
theorem nH {m:au}(a:3<=m.length):∀(l:au) {s:St},Good m s->lI (outs m s l)+(fold m s l).held<=s.held+2*l.length∧(outs m s l).length<=2*l.length
 | [],_,_=>⟨by show 0+_<=_;simp[fold],ay _⟩
 | c :: t, s, h => by
   have b:=VI h c;have d:=nH a t (h.next a c);show lI ((next m s c).2++outs m (next m s c).1 t)+(fold m (next m s c).1 t).held<=_∧((next m s c).2++outs m (next m s c).1 t).length<=_;rw[mJ,aV,aW];exact⟨by omega,by omega⟩
end Go.Proofs.YtjmndjmhjleabaaGreatDoor.Fm
namespace Go.Proofs.YtjmndjmhjleabaaGreatDoor
namespace Fm
structure uI (e:iM):Prop where
 method:e.method.size=0
 target:e.target.size=0
 fields:e.fields=[]
 iq:e.iq=[]
 kV:e.kV.size<=200
 kI:e.kI.size<=200
 ptype:e.ptype.size<=200
theorem Hq (b:au):uI (jX b):=⟨rfl,rfl,rfl,rfl,ay _,ay _,ay _⟩
theorem qU (c:Nat):uI (VA c):=⟨rfl,rfl,rfl,rfl,ay _,ay _,ay _⟩
theorem KQ (l:au):(safe l).length<=40:=by
 unfold safe named;split
 . decide
 . rw[bX];omega
theorem get_mem {n:au}{a:List Pm.tK}{v:au}(h:get n a=M v):∃p∈a,p.2=v:=by
 unfold get at h;obtain⟨p,b,rfl⟩:=fF.1 h;exact⟨p,List.mem_of_find?_eq_some b,rfl⟩
theorem VJ {a:List Pm.tK}{f:au}(h:file a=M f):f.length<=40:=by
 unfold file at h;split at h
 . obtain⟨x,_,rfl⟩:=fF.1 h;exact KQ x
 . split at h
   . injection h with h;subst h;exact KQ _
   . injection h with h;subst h;exact ay _
theorem Qm {a:List (au)}{N:Nat}(h:∀v∈a,v.length<=N):(one a).1.length<=N:=by
 unfold one;split
 . exact ay _
 . exact h _ (by simp)
 . exact ay _
theorem KR {a:List Rq.Fl}{n:au}{N:Nat}(h:∀f∈a,f.2.length<=N):∀v∈Rq.vals a n,v.length<=N:=fun v b=>by
 unfold Rq.vals at b;obtain⟨f,c,rfl⟩:=aM.1 b;exact h f (List.mem_filter.1 c).1
theorem VK {b:List Rq.Fl}{p:YT}{N:Nat}(h:part b=.inr p)(c:∀f∈b,f.2.length<=N):p.name.length<=N∧p.file.length<=40∧p.type.length<=N:=by
 have l:=Qm (KR (n:=Vz) c);have d:=Qm (KR (n:=nType) c);unfold part qg at h;split at h
 . cases h
 . split at h
   . cases h
   . rename_i x g;split at h
     . cases h
     . split at h
       . cases h
       . rename_i i j;split at h
         . cases h
         . rename_i f a;split at h
           . cases h
           . injection h with h;subst h;obtain⟨q,k,e⟩:=get_mem j;have:=(Pm.AP g).2 q k;exact⟨by show i.length<=N;rw[<-e];omega,VJ a,d⟩
theorem Ry {m:au}{s:St}(h:Good m s)(t:au):∀e∈(line s t).2,uI e:=by
 unfold line;split
 . split
   . intro e a;rw[bB.1 a];exact qU 8
   . split
     . intro e a;rw[bB.1 a];exact qU _
     . intro e a;cases a
 . split
   . intro e a;rw[bB.1 a];exact qU _
   . split
     . intro e a;rw[bB.1 a];exact qU 8
     . rename_i p b _;have:=VK b (fun f c=>(h.short f c).2);intro e a;rw[bB.1 a];refine⟨rfl,rfl,rfl,rfl,?_,?_,?_⟩
       . show p.name.toArray.size<=_;rw[bL];omega
       . show p.file.toArray.size<=_;rw[bL];omega
       . show p.type.toArray.size<=_;rw[bL];omega
theorem Rz {m:au}{s:St}(h:Good m s)(c:UInt8):∀e∈(next m s c).2,uI e:=by
 unfold next;split
 . intro e a;cases a
 . split
   . show ∀e∈(if 0<s.parts then _ else _),uI e;split
     . intro e a;rcases bA.1 a with a | a
       . unfold nS at a;split at a
         . cases a
         . rw[bB.1 a];exact Hq _
       . split at a
         . rw[bB.1 a];exact⟨rfl,rfl,rfl,rfl,ay _,ay _,ay _⟩
         . cases a
     . intro e a;cases a
   . split
     . rename_i b;split
       . intro e a;rw[bB.1 a];exact qU _
       . rename_i d;split
         . exact Ry (m:=m) (s:={ s with ln:=Ln.next s.ln c }) ⟨h.place,h.held,h.idle,Ln.tQ h.ln,by show(Ln.next s.ln c).code=0;omega,h.many,h.short,fun e=>absurd b e,h.parts,h.code⟩ _
         . intro e a;cases a
     . split
       . intro e a;rw[bB.1 a];exact qU _
       . split
         . intro e a;rw[bB.1 a];exact⟨rfl,rfl,rfl,rfl,ay _,ay _,ay _⟩
         . intro e a;cases a
theorem qR {m:au}(b:3<=m.length):∀(l:au) {s:St},Good m s->∀e∈outs m s l,uI e
 | [],_,_=>fun e a=>by cases a
 | c :: t, s, h => fun e a => by
   rcases bA.1 a with a | a
   . exact Rz h c e a
   . exact qR b t (h.next b c) e a
theorem oL {l:List iM}(h:∀e∈l,uI e):∀e∈lX l,uI e:=Rt Hq l h
end Fm
end Go.Proofs.YtjmndjmhjleabaaGreatDoor
namespace Go.Proofs.YtjmndjmhjleabaaGreatDoor.Fm
theorem RA (m:au){s:St}(a:s.place=5)(b:s.code=0)(c:UInt8):next m s c=if (Ln.next s.ln c).code≠0 then fails (Ln.next s.ln c).code else if Ln.ends s.ln c then line { s with ln:=Ln.next s.ln c } (Ln.text s.ln c) else ({ s with ln:=Ln.next s.ln c },[]):=by
 unfold next;rw[if_neg (fun h=>h ⟨b,by omega⟩),if_neg (by omega),if_pos a]
theorem KS {c:Nat}(h:c≠0):¬live (failed c):=fun k=>h k.1
theorem RB:¬live done:=fun k=>k.2 rfl
theorem BH (t:Td)(l:au):tells t (nS l)=⟨t.es,t.bs++l⟩:=by
 unfold nS;split
 . rename_i h;subst h;rw[bV];rfl
 . show tell t (jX l)=_;unfold tell;rw[if_pos (show(jX l).kind=2 from rfl)];rfl
theorem RD (m:au){s:St}(b:s.place=1∨s.place=2∨s.place=3∨s.place=4)(a:s.code=0)(c:UInt8):next m s c=if (turn s.place c).2≠0 then fails (turn s.place c).2 else if (turn s.place c).1=6 then (done,[ad4]) else ({ s with place:=(turn s.place c).1 },[]):=by
 unfold next;rw[if_neg (fun h=>h ⟨a,by omega⟩),if_neg (by omega),if_neg (by omega)]
theorem RF (p:Nat)(c:UInt8):(turn p c).1=6->(turn p c).2=0:=by
 unfold turn;repeat' split
 all_goals (intro h;first | rfl | (cases h;done))
theorem RG {s:St}{b:List Rq.Fl}{p:YT}(c:part b=.inr p)(a:s.parts≠12):line { s with fields:=b } []=({ s with fields:=[],parts:=s.parts+1,place:=0,held:=2,ahead:=2 },[Qg p]):=by
 unfold line;rw[if_neg (fun h=>h rfl)];simp only[c];rw[if_neg a]
theorem VL {r:au}{c:Nat}(h:Pm.val r=.inl c):c≠0:=by
 unfold Pm.val at h;repeat' split at h
 all_goals (first | cases h;done | (injection h with h;omega))
theorem VN {r:au}{c:Nat}(h:Pm.par r=.inl c):c≠0:=by
 unfold Pm.par at h;split at h
 . simp only[] at h;split at h
   . injection h with h;omega
   . split at h
     . split at h
       . rename_i a;injection h with h;subst h;exact VL a
       . cases h
     . injection h with h;omega
 . injection h with h;omega
theorem Hr:∀(n:Nat) (r:au) (a:List Pm.tK) (c:Nat),Pm.uF n r a=.inl c->c≠0
 | 0,r,a,c,h=>by rw[Pm.uF] at h;cases h
 | n + 1, r, a, c, h => by
   rw[Pm.uF] at h;split at h
   . cases h
   . split at h
     . rename_i b;injection h with h;subst h;exact VN b
     . split at h
       . injection h with h;omega
       . split at h
         . injection h with h;omega
         . exact Hr n _ _ c h
theorem DT {l:au}{c:Nat}(h:Pm.kr l=.inl c):c≠0:=by
 unfold Pm.kr at h;split at h
 . injection h with h;omega
 . split at h
   . rename_i a;injection h with h;subst h;unfold Pm.wrd at a;simp only[] at a;repeat' split at a
     all_goals (first | (injection a with a;omega) | (cases a;done))
   . unfold Pm.fin at h;split at h
     . rename_i b;injection h with h;subst h;exact Hr _ _ _ _ b
     . cases h
theorem RH {a:List Rq.Fl}{c:Nat}(h:part a=.inl c):c≠0:=by
 unfold part qg at h;split at h
 . rename_i b;injection h with h;subst h;exact b
 . split at h
   . rename_i d;injection h with h;subst h;exact DT d
   . repeat' split at h
     all_goals (first | (injection h with h;omega) | (cases h;done))
theorem Nw (s:St)(t:au)(h:s.ahead<=2):(line s t).1.ahead<=2:=by
 unfold line;split
 . split
   . exact ay _
   . split
     . exact ay _
     . exact h
 . split
   . exact ay _
   . split
     . exact ay _
     . exact aL _
theorem Ny (m:au)(s:St)(c:UInt8)(h:s.ahead<=2):(next m s c).1.ahead<=2:=by
 unfold next;split
 . exact h
 . split
   . show s.ahead-_<=2;omega
   . split
     . split
       . exact ay _
       . split
         . exact Nw _ _ h
         . exact h
     . split
       . exact ay _
       . split
         . exact ay _
         . exact h
theorem DU (m:au):∀(l:au) (s:St),s.ahead<=2->(fold m s l).ahead<=2
 | [],_,h=>h
 | c::t,s,h=>DU m t _ (Ny m s c h)
theorem RI {m:au}(c:3<=m.length){s:St}(h:Good m s)(l:au):(tells FU (outs m s l)).es.length<=2*l.length∧(tells FU (outs m s l)).bs.length<=s.held+2*l.length:=by
 obtain⟨e,f⟩:=nH c l h;have d:=(BD _ (yM m l s)).1;have a:=uG (outs m s l);have b:=He (outs m s l);rw[<-d] at a b;generalize tells FU (outs m s l)=t at *;obtain⟨es,bs⟩:=t;unfold flush at a b;simp only at *;rw[aV] at a;rw[mJ,Ho] at b;exact⟨by omega,by omega⟩
theorem DV (b:au)(h:b≠[])(a:b.length<=70):(mark b).take 2=[13,10]∧5<=(mark b).length∧(mark b).length<=74:=by
 refine⟨rfl,?_,?_⟩
 . have:=fD.2 h;show 5<=b.length+1+1+1+1;omega
 . show b.length+1+1+1+1<=74;omega
def kM (l:List iM):Prop:=∃x∈l,x.kind=5
def zG (l:List iM):Prop:=∀q e r,l=q++e::r->e.kind=2->kM q
theorem kM.left {a b:List iM}(h:kM a):kM (a++b):=by obtain⟨x,c,d⟩:=h;exact⟨x,bI _ c,d⟩
theorem zG.nil:zG []:=fun q e r h=>by
 have:=bD List.length h;rw[aV,aW,bZ] at this;omega
theorem zG.snoc {q:List iM}{e:iM}(h:zG q)(f:e.kind=2->kM q):zG (q++[e]):=by
 intro g i r a d;rcases bC r with rfl | ⟨j,x,rfl⟩
 . obtain⟨b,c⟩:=bG a rfl;subst b;injection c with c;subst c;exact f d
 . rw[bE,<-dY,<-dS] at a;obtain⟨b,_⟩:=bG a rfl;exact h g i j b d
theorem zG.front {a b:List iM}(h:zG (a++b)):zG a:=fun q e r c d=>h q e (r++b) (by rw[c];simp) d
theorem KT {l:List iM}{e:iM}(h:kM l∨e.kind=5):kM (vL l e):=by
 by_cases b:e.kind=2∧tailD l=true
 . obtain⟨q,x,rfl,d⟩:=pJ b.2;rw[nM q x e d b.1];rcases h with ⟨y,a,c⟩ | h
   . rcases bA.1 a with a | a
     . exact⟨y,bI _ a,c⟩
     . rw[bB.1 a,d] at c;cases c
   . rw[b.1] at h;cases h
 . rw[mI l e (fun k=>by
    cases f:tailD l
    . rfl
    . exact absurd ⟨k,f⟩ b)]
   rcases h with h | h
   . exact h.left
   . exact⟨e,by simp,h⟩
theorem KU:∀(n:Nat) (l:List iM),l.length=n->zG l->zG (lX l)∧(kM l->kM (lX l))
 | 0,l,c,_=>by rw[dn c];exact⟨zG.nil,fun h=>h⟩
 | n + 1, l, c, h => by
   rcases bC l with rfl | ⟨q,x,rfl⟩
   . exact⟨zG.nil,fun h=>h⟩
   . rw[bE] at c h ⊢;obtain⟨d,g⟩:=KU n q (by simpa using c) h.front;have i:x.kind=2->kM q:=fun b=>h q x [] rfl b;rw[DI];refine⟨?_,fun j=>KT ?_⟩
     . by_cases e:x.kind=2∧tailD (lX q)=true
       . obtain⟨p,y,f,a⟩:=pJ e.2;rw[f] at d ⊢;rw[nM p y x a e.1];exact d.front.snoc (fun _=>d p y [] rfl a)
       . rw[mI _ x (fun k=>by
          cases m:tailD (lX q)
          . rfl
          . exact absurd ⟨k,m⟩ e)]
         exact d.snoc (fun b=>g (i b))
     . obtain⟨y,a,b⟩:=j;rcases bA.1 a with a | a
       . exact Or.inl (g ⟨y,a,b⟩)
       . rw[bB.1 a] at b;exact Or.inr b
theorem zG.none_ {a b:List iM}(h:zG a)(c:∀e∈b,e.kind≠2):zG (a++b):=by
 induction b generalizing a with
 | nil=>rw[bV];exact h
 | cons e r d =>
   have:=d (h.snoc (e:=e) (fun k=>absurd k (c e (cB ..)))) (fun x f=>c x (cK _ f));rw[dS] at this;exact this
theorem zG.some_ {a b:List iM}(h:zG a)(c:kM a):zG (a++b):=by
 induction b generalizing a with
 | nil=>rw[bV];exact h
 | cons e r d =>
   have:=d (h.snoc (e:=e) (fun _=>c)) c.left;rw[dS] at this;exact this
theorem Nz (s:St)(t:au):(∀e∈(line s t).2,e.kind≠2)∧(0<(line s t).1.parts->0<s.parts∨kM (line s t).2):=by
 unfold line;split
 . split
   . exact⟨fun e a=>by rw[bB.1 a];show(4:Int)≠2;decide,fun h=>absurd h (by decide)⟩
   . split
     . exact⟨fun e a=>by rw[bB.1 a];show(4:Int)≠2;decide,fun h=>absurd h (Nat.lt_irrefl 0)⟩
     . exact⟨(fun e a=>by cases a),fun h=>Or.inl h⟩
 . split
   . exact⟨fun e a=>by rw[bB.1 a];show(4:Int)≠2;decide,fun h=>absurd h (Nat.lt_irrefl 0)⟩
   . split
     . exact⟨fun e a=>by rw[bB.1 a];show(4:Int)≠2;decide,fun h=>absurd h (by decide)⟩
     . rename_i p _ _;exact⟨fun e a=>by rw[bB.1 a];show(5:Int)≠2;decide,fun _=>Or.inr ⟨Qg p,by simp,rfl⟩⟩
theorem VO {m:au}{s:St}(c:UInt8){o:List iM}(h:zG o)(a:0<s.parts->kM o):zG (o++(next m s c).2)∧(0<(next m s c).1.parts->kM (o++(next m s c).2)):=by
 unfold next;split
 . exact⟨by rw[bV];exact h,fun k=>(a k).left⟩
 . split
   . show zG (o++if 0<s.parts then _ else _)∧(0<s.parts->_);by_cases b:0<s.parts
     . rw[if_pos b];exact⟨h.some_ (a b),fun _=>(a b).left⟩
     . rw[if_neg b];exact⟨by rw[bV];exact h,fun k=>absurd k b⟩
   . split
     . split
       . exact⟨h.none_ (fun e d=>by rw[bB.1 d];show(4:Int)≠2;decide),fun k=>absurd k (Nat.lt_irrefl 0)⟩
       . split
         . obtain⟨f,g⟩:=Nz { s with ln:=Ln.next s.ln c } (Ln.text s.ln c);refine⟨h.none_ f,fun k=>?_⟩;rcases g k with k | ⟨x,i,j⟩
           . exact(a k).left
           . exact⟨x,dR _ i,j⟩
         . exact⟨by rw[bV];exact h,fun k=>(a k).left⟩
     . split
       . exact⟨h.none_ (fun e d=>by rw[bB.1 d];show(4:Int)≠2;decide),fun k=>absurd k (Nat.lt_irrefl 0)⟩
       . split
         . exact⟨h.none_ (fun e d=>by rw[bB.1 d];show(3:Int)≠2;decide),fun k=>absurd k (Nat.lt_irrefl 0)⟩
         . exact⟨by rw[bV];exact h,fun k=>(a k).left⟩
theorem KV (m:au):∀(l:au) (s:St) (o:List iM),zG o->(0<s.parts->kM o)->zG (o++outs m s l)
 | [],_,o,h,_=>by show zG (o++[]);rw[bV];exact h
 | c :: t, s, o, h, hp => by
   obtain⟨a,b⟩:=VO (m:=m) c h hp;have:=KV m t (next m s c).1 (o++(next m s c).2) a b;rw[dS] at this;exact this
theorem VP (m l:au):zG (lX (outs m start l)):=(KU _ _ rfl (by have:=KV m l start [] zG.nil (fun h=>absurd h (by decide));simpa using this)).1
theorem zG.at_ {l:List iM}(h:zG l){k:Nat}(a:k<l.length)(b:l[k].kind=2):kM (l.take k):=h (l.take k) l[k] (l.drop (k+1)) (by rw[<-aC a,bW]) b
structure Pt where
 name:av
 file:av
 type:av
 bytes:au
def laid (acc:List Pt)(e:iM):List Pt:=if e.kind=5 then acc++[⟨e.kV,e.kI,e.ptype,e.iq⟩] else if e.kind=2 then acc.dropLast++(acc.getLast?.map fun p=>{ p with bytes:=e.bytes }).toList else acc
def pQ (l:List iM):List Pt:=l.foldl laid []
theorem Ht (l:List iM)(e:iM):pQ (l++[e])=laid (pQ l) e:=by unfold pQ;rw[fu];rfl
theorem BI (a:List Pt)(e:iM):a.length<=(laid a e).length∧(laid a e).length<=a.length+1:=by
 unfold laid;split
 . simp
 . split
   . rcases bC a with rfl | ⟨q,x,rfl⟩
     . simp
     . rw[bE,fq,eZ];simp
   . simp
theorem Hu:∀(n:Nat) (l:List iM),l.length=n->kM l->0<(pQ l).length
 | 0,l,b,⟨x,c,_⟩=>by rw[dn b] at c;cases c
 | n + 1, l, b, h => by
   rcases bC l with rfl | ⟨q,x,rfl⟩
   . obtain⟨_,c,_⟩:=h;cases c
   . rw[bE] at b h ⊢;rw[Ht];obtain⟨y,a,d⟩:=h;rcases bA.1 a with a | a
     . have:=Hu n q (by simpa using b) ⟨y,a,d⟩;have:=(BI (pQ q) x).1;omega
     . rw[bB.1 a] at d;unfold laid;rw[if_pos d];simp
theorem BJ (l:List iM):(pQ l).length<=l.length:=by
 have:∀(m:List iM) (o:List Pt),(m.foldl laid o).length<=o.length+m.length:=by
  intro m;induction m with
  | nil=>intro o;simp
  | cons e r a=>intro o;rw[dP];have b:=a (laid o e);have c:=(BI o e).2;simp only[aW];omega
 have h:=this l [];simpa[pQ] using h
end Go.Proofs.YtjmndjmhjleabaaGreatDoor.Fm
namespace Go.Proofs.YtjmndjmhjleabaaGreatDoor.Gt
open Sr
def txt (l:au):av:=⟨l.toArray⟩
def nu (l:List Rq.Fl):ak:=l.map fun p=>(txt p.1,txt p.2)
abbrev zi:=Nat×ak×au
def NA:au:=[98,111,117,110,100,97,114,121]
def Qn:au:=[109,117,108,116,105,112,97,114,116,47,102,111,114,109,45,100,97,116,97]
def aaD:av:=⟨#[47,102,111,114,109]⟩
def GU:av:=⟨#[80,79,83,84]⟩
def NC:av:=⟨#[80,65,84,67,72]⟩
def BA:au:=[102,105,108,101,110,97,109,101,32]
def Je (t:av):Bool:=decide (7<=t.size)&&decide (t.data.toList.take 7=Tu.lH.data.toList)
def ours (t:av):Bool:=decide (t=Tu.sW)||Je t
def bound (l:ak):Option (au) :=
 if (Tu.one (Tu.vals Tu.MU l)).2≠0 then U
 else match Pm.kr (Tu.one (Tu.vals Tu.MU l)).1 with
  | .inl _=>U
  | .inr x=>if x.1≠Qn then U else Fm.get NA x.2
def parts (b body:au):Option (List Fm.Pt) :=
 if Fm.lJ b=true∧Fm.close (Fm.fold (Fm.mark b) Fm.start body)=0 then M (Fm.pQ (lX (Fm.outs (Fm.mark b) Fm.start body))) else U
def room (ps:List Fm.Pt):Nat:=(ps.map fun p=>p.bytes.length+200).sum
def oZ (s:Sh)(ids:List Int):Sh:=ids.foldl (fun s i=>(Sr.drop s i).1) s
def stat (c:Nat):Nat:=if c=4 then 413 else 507
def toldOf (id:Int)(f:av):au:=Ch.jG 8 id.toNat++[32]++f.data.toList++[10]
def je (p:Fm.Pt):av:=txt (BA++p.file.data.toList)
def lands (s:Sh)(made:List Int)(told:au):List Fm.Pt->Sh×zi
 | []=>(Sr.sync s,(201,[],told))
 | p :: r =>
   if p.file.size=0 then lands s made told r
   else if (Sr.create s p.bytes.length (je p)).2≠0 then (Sr.sync (oZ s made),(stat (Sr.create s p.bytes.length (je p)).2,[],[]))
   else if (Sr.append (Sr.create s p.bytes.length (je p)).1 (s.h.last+1) 0 p.bytes).2≠0 then
    (Sr.sync (oZ (Sr.drop (Sr.create s p.bytes.length (je p)).1 (s.h.last+1)).1 made),(stat (Sr.append (Sr.create s p.bytes.length (je p)).1 (s.h.last+1) 0 p.bytes).2,[],[]))
   else lands (Sr.append (Sr.create s p.bytes.length (je p)).1 (s.h.last+1) 0 p.bytes).1 (made++[s.h.last+1]) (told++toldOf (s.h.last+1) p.file) r
def land (s:Sh)(l:ak)(body:au):Sh×zi:=match bound l with
 | none=>(s,(415,[],[]))
 | some b => match parts b body with
   | none=>(s,(400,[],[]))
   | some ps=>if 100000<s.log.length+room ps then (s,(507,[],[])) else lands s [] [] ps
abbrev abE:=Sh->av->av->ak->au->Sh×Tu.zi
section
variable (T:abE)
def answer (s:Sh)(m t:av)(l:ak)(body:au):Sh×zi :=
 if ours t=true then ((T s m t l body).1,((T s m t l body).2.1,(T s m t l body).2.2,[]))
 else if t≠aaD then (s,(404,[],[]))
 else if m≠GU then (s,(405,[],[]))
 else land s l body
def over (s:Sh)(h:Rq.Hd)(body:au):Sh×zi:=answer T s (txt h.method) (txt h.target) (nu h.fields) body
def textOf (r:zi):au:=(Rp.text (r.1:Int) r.2.1 (Tu.vals ⟨#[99,111,110,116,101,110,116,45,108,101,110,103,116,104]⟩ r.2.1).length r.2.2).1
def sJ (c:Nat):zi:=(if c=4 then 413 else 400,[],[])
/-! ### events -/
structure Gs where
 s:Sh
 hd:Rq.Hd
 body:au
 out:au
def ev (g:Gs):Rq.Ev->Gs
 | .head h=>{ g with hd:=h }
 | .body b=>{ g with body:=g.body++b }
 | .fin=>{ s:=(over T g.s g.hd g.body).1,hd:=Rq.hd0,body:=[],out:=g.out++textOf (over T g.s g.hd g.body).2 }
 | .fail c=>{ s:=g.s,hd:=Rq.hd0,body:=[],out:=g.out++textOf (sJ c) }
def evs (g:Gs)(l:List Rq.Ev):Gs:=l.foldl (ev T) g
theorem pR (g:Gs)(e:Rq.Ev)(l:List Rq.Ev):evs T g (e::l)=evs T (ev T g e) l:=rfl
theorem DW (g:Gs)(a b:List Rq.Ev):evs T g (a++b)=evs T (evs T g a) b:=by unfold evs;rw[fu]
theorem abF (g:Gs)(a b:au):ev T (ev T g (.body a)) (.body b)=ev T g (.body (a++b)):=by
 show(⟨g.s,g.hd,(g.body++a)++b,g.out⟩:Gs)=⟨g.s,g.hd,g.body++(a++b),g.out⟩;rw[dS]
theorem vY:∀(l:List Rq.Ev) (g:Gs),evs T g (Rq.join l)=evs T g l
 | [],_=>rfl
 | .head h::r,g=>vY r (ev T g (.head h))
 | .fin::r,g=>vY r (ev T g .fin)
 | .fail c::r,g=>vY r (ev T g (.fail c))
 | .body a :: r, g => by
   have d:=vY r (ev T g (.body a));rw[pR T g (.body a) r,<-d];show evs T g (match Rq.join r with
    | .body b::q=>.body (a++b)::q
    | q=>.body a::q)=_
   cases f:Rq.join r with
   | nil=>rfl
   | cons e q =>
     cases e with
     | body b=>rw[pR,pR,abF]
     | head _=>rfl
     | fin=>rfl
     | fail _=>rfl
theorem VQ (g:Gs)(o:au)(e:Rq.Ev):ev T { g with out:=o++g.out } e={ ev T g e with out:=o++(ev T g e).out }:=by
 cases e with
 | head h=>rfl
 | body b=>rfl
 | fin=>simp only[ev,dS]
 | fail c=>simp only[ev,dS]
theorem Qo:∀(l:List Rq.Ev) (g:Gs) (o:au),evs T { g with out:=o++g.out } l={ evs T g l with out:=o++(evs T g l).out }
 | [],_,_=>rfl
 | e :: r, g, o => by
   rw[pR,pR,VQ];exact Qo r (ev T g e) o
/-! ### a connection -/
structure Cn where
 rq:Rq.St
 hd:Rq.Hd
 body:au
def qC:Cn:=⟨Rq.start,Rq.hd0,[]⟩
def at_ (s:Sh)(c:Cn):Gs:=⟨s,c.hd,c.body,[]⟩
def DX (s:Sh)(c:Cn)(b:au):Gs:=evs T (at_ s c) (Rq.outs c.rq b)
def feed (s:Sh)(c:Cn)(b:au):Sh×Cn×au:=((DX T s c b).s,⟨Rq.fold c.rq b,(DX T s c b).hd,(DX T s c b).body⟩,(DX T s c b).out)
theorem VR (s:Sh)(c:Cn):feed T s c []=(s,c,[]):=rfl
theorem BK (s:Sh)(c:Cn)(a b:au):feed T s c (a++b)=((feed T (feed T s c a).1 (feed T s c a).2.1 b).1,(feed T (feed T s c a).1 (feed T s c a).2.1 b).2.1,(feed T s c a).2.2++(feed T (feed T s c a).1 (feed T s c a).2.1 b).2.2):=by
 have d:DX T s c (a++b)={ DX T (feed T s c a).1 (feed T s c a).2.1 b with out:=(DX T s c a).out++(DX T (feed T s c a).1 (feed T s c a).2.1 b).out }:=by
  unfold DX;rw[Rq.jE,DW];have:=Qo T (Rq.outs (Rq.fold c.rq a) b) (at_ (feed T s c a).1 (feed T s c a).2.1) (evs T (at_ s c) (Rq.outs c.rq a)).out;rw[show({ at_ (feed T s c a).1 (feed T s c a).2.1 with out:=(evs T (at_ s c) (Rq.outs c.rq a)).out++(at_ (feed T s c a).1 (feed T s c a).2.1).out }:Gs)=evs T (at_ s c) (Rq.outs c.rq a) from by
   show(⟨_,_,_,_++[]⟩:Gs)=_;rw[bV];rfl] at this
  exact this
 unfold feed;rw[d,Rq.jL];rfl
def feeds (s:Sh)(c:Cn):List (au)->Sh×Cn×au
 | []=>(s,c,[])
 | b::r=>((feeds (feed T s c b).1 (feed T s c b).2.1 r).1,(feeds (feed T s c b).1 (feed T s c b).2.1 r).2.1,(feed T s c b).2.2++(feeds (feed T s c b).1 (feed T s c b).2.1 r).2.2)
theorem rO:∀(l:List (au)) (s:Sh) (c:Cn),feeds T s c l=feed T s c l.flatten
 | [],s,c=>(VR T s c).symm
 | b :: r, s, c => by
   rw[List.flatten_cons,BK];unfold feeds;rw[rO r]
/-! ### what holds of it -/
theorem uK:∀(ids:List Int) {s:Sh},Sr.Ok s->Sr.Ok (oZ s ids)
 | [],_,h=>h
 | i::r,_,h=>uK r (h.drop i)
theorem DY:∀(b:List Fm.Pt) {s:Sh} (made:List Int) (a:au),Sr.Ok s->Sr.Ok (lands s made a b).1
 | [],_,_,_,h=>h.sync
 | p :: r, s, made, a, h => by
   unfold lands;split
   . exact DY r made a h
   . split
     . exact(uK made h).sync
     . split
       . exact(uK made ((h.create _ _).drop _)).sync
       . exact DY r _ _ ((h.create _ _).append _ _ _)
theorem Y1 {s:Sh}(h:Sr.Ok s)(l:ak)(body:au):Sr.Ok (land s l body).1:=by
 unfold land;split
 . exact h
 . split
   . exact h
   . split
     . exact h
     . exact DY _ _ _ h
theorem RJ (a:∀{s:Sh},Sr.Ok s->∀m t l body,Sr.Ok (T s m t l body).1){s:Sh}(h:Sr.Ok s)(m t:av)(l:ak)(body:au):Sr.Ok (answer T s m t l body).1:=by
 unfold answer;split
 . exact a h _ _ _ _
 . split
   . exact h
   . split
     . exact h
     . exact Y1 h l body
theorem VT (a:∀{s:Sh},Sr.Ok s->∀m t l body,Sr.Ok (T s m t l body).1){g:Gs}(h:Sr.Ok g.s)(e:Rq.Ev):Sr.Ok (ev T g e).s:=by
 cases e with
 | head _=>exact h
 | body _=>exact h
 | fin=>exact RJ T a h _ _ _ _
 | fail _=>exact h
theorem VU (a:∀{s:Sh},Sr.Ok s->∀m t l body,Sr.Ok (T s m t l body).1):∀(l:List Rq.Ev) {g:Gs},Sr.Ok g.s->Sr.Ok (evs T g l).s
 | [],_,h=>h
 | e::r,_,h=>VU a r (VT T a h e)
theorem Y2 (a:∀{s:Sh},Sr.Ok s->∀m t l body,Sr.Ok (T s m t l body).1){s:Sh}(h:Sr.Ok s)(c:Cn)(b:au):Sr.Ok (feed T s c b).1:=VU T a (g:=at_ s c) _ h
end
section
variable (T:abE)
def Quiet (l:List Rq.Ev):Prop:=∀e∈l,e≠.fin
theorem Quiet.left {a b:List Rq.Ev}(h:Quiet (a++b)):Quiet a:=fun e c=>h e (bI _ c)
theorem Quiet.right {a b:List Rq.Ev}(h:Quiet (a++b)):Quiet b:=fun e c=>h e (dR _ c)
theorem uL:∀(l:List Rq.Ev),Quiet (Rq.join l)->Quiet l
 | [],_=>fun e d=>by cases d
 | .head h :: r, hq => fun e d => by
   rcases fA.1 d with rfl | d
   . simp
   . exact uL r (fun e d=>hq e (cK _ d)) e d
 | .fin::r,hq=>absurd rfl (hq .fin (cB ..))
 | .fail c :: r, hq => fun e d => by
   rcases fA.1 d with rfl | d
   . simp
   . exact uL r (fun e d=>hq e (cK _ d)) e d
 | .body a :: r, hq => fun e d => by
   rcases fA.1 d with rfl | d
   . simp
   . refine uL r (fun x f=>?_) e d;have i:Rq.join (.body a::r)=(match Rq.join r with
      | .body b::q=>.body (a++b)::q
      | q=>.body a::q):=rfl
     rw[i] at hq;cases g:Rq.join r with
     | nil=>rw[g] at f;cases f
     | cons y q =>
       rw[g] at f hq;cases y with
       | body b =>
         rcases fA.1 f with rfl | f
         . simp
         . exact hq x (cK _ f)
       | head h=>exact hq x (cK _ f)
       | fin=>exact hq x (cK _ f)
       | fail c=>exact hq x (cK _ f)
theorem Hw:∀(l:List Rq.Ev) (g:Gs),Quiet l->(evs T g l).s=g.s
 | [],_,_=>rfl
 | e :: r, g, h => by
   rw[pR,Hw r _ (fun x a=>h x (cK _ a))];cases e with
   | head _=>rfl
   | body _=>rfl
   | fin=>exact absurd rfl (h .fin (cB ..))
   | fail _=>rfl
theorem ND (s:Sh)(c:Cn)(b:au)(h:Quiet (Rq.outs c.rq b)):(feed T s c b).1=s:=Hw T _ (at_ s c) h
end
structure Small (r:zi):Prop where
 few:r.2.1.length<=5
 fields:∀p∈r.2.1,p.1.size<=2000∧p.2.size<=2000
 body:r.2.2.length<=2000
theorem Small.bare (st:Nat):Small (st,[],[]):=⟨ay _,fun p a=>by simp at a,ay _⟩
def FS (r:Tu.zi):Prop:=r.2.length<=5∧∀p∈r.2,p.1.size<=2000∧p.2.size<=2000
theorem zO (n:Nat):(Tu.dec n).size<=9:=by
 unfold Tu.dec;show(Ch.jG 8 n).toArray.size<=_;rw[bL];exact(Ch.jW 8 n).1
theorem C9 (st:Nat)(l:ak)(b:l.length<=4)(h:∀p∈l,p.1.size<=2000∧p.2.size<=2000):FS (Tu.said st l):=by
 refine⟨by show l.length+1<=5;omega,fun p a=>?_⟩;rcases fA.1 a with rfl | a
 . exact⟨by decide,by decide⟩
 . exact h p a
theorem mZ (st:Nat):FS (Tu.said st []):=C9 st [] (ay _) (fun p a=>by cases a)
theorem NT (st:Nat)(a b:av)(ha:a.size<=2000)(c:b.size<=2000):FS (Tu.said st [(a,b)]):=C9 st _ (by show(1:Nat)<=4;omega) (fun p d=>by
 rw[bB.1 d];exact⟨ha,c⟩)
theorem Zl (s:Sh)(m:av)(l:ak):FS (Tu.post s m l).2:=by
 unfold Tu.post;repeat' split
 all_goals first
  | exact mZ _
  | exact NT _ _ _ (by decide) (by rw[bM];have:=zO (s.h.last+1).toNat;have:Tu.lH.size=7:=rfl;omega)
theorem Wh (s:Sh)(u:Sp.Up)(l:ak)(body:au):FS (Tu.patch s u l body).2:=by
 unfold Tu.patch;split
 . exact mZ _
 . split
   . exact mZ _
   . split
     . exact mZ _
     . split
       . exact mZ _
       . split
         . exact mZ _
         . split
           . exact mZ _
           . split
             . exact mZ _
             . split
               . exact mZ _
               . exact NT _ _ _ (by decide) (by have:=zO (u.bytes.length+body.length);omega)
theorem Zm (u:Sp.Up)(h:u.note.size<=100):FS (Tu.head u):=by
 unfold Tu.head;refine C9 200 _ ?_ (fun p a=>?_)
 . simp only[aW];split <;> simp
 . rcases fA.1 a with rfl | a
   . exact⟨show Tu.vD.size<=2000 by decide,by have:=zO u.bytes.length;show(Tu.dec u.bytes.length).size<=_;omega⟩
   . rcases fA.1 a with rfl | a
     . split
       . exact⟨by decide,by decide⟩
       . exact⟨show Tu.Dv.size<=2000 by decide,by have:=zO u.size.toNat;show(Tu.dec u.size.toNat).size<=_;omega⟩
     . rcases fA.1 a with rfl | a
       . exact⟨by decide,by decide⟩
       . split at a
         . cases a
         . rw[bB.1 a];exact⟨show Tu.MV.size<=2000 by decide,by show u.note.size<=_;omega⟩
theorem Wi {s:Sh}(ok:Sr.Ok s)(m t:av)(l:ak)(body:au):FS (Tu.iF s m t l body).2:=by
 unfold Tu.iF;split
 . exact C9 _ _ (by decide) (by decide)
 . split
   . exact mZ _
   . split
     . exact NT _ _ _ (by decide) (by decide)
     . split
       . exact Zl s m l
       . split
         . exact mZ _
         . rename_i u a;unfold Tu.R8;split
           . exact Zm u (ok.h.all u (Tu.Dy a).1).note
           . split
             . exact mZ _
             . split
               . exact Wh s u l body
               . exact mZ _
theorem Ej {s:Sh}{z:Int}{m:av}(h:(Sr.create s z m).2=0):(Sr.create s z m).1.h.l.length=s.h.l.length+1∧m.size<=100:=by
 unfold Sr.create Sr.write at h ⊢;split
 . rename_i a;rw[if_pos a] at h;exact absurd h a
 . rename_i a;rw[if_neg a] at h;split
   . rename_i c;rw[if_pos c] at h;exact absurd h (by simp)
   . rename_i c;rw[if_neg c] at h;split
     . rename_i b;rw[if_pos b] at h;exact absurd h (by simp)
     . clear h c;show(Sr.made s.h z m).1.l.length=_∧_;unfold Sr.made Sp.create at a ⊢;split
       . rename_i b;rw[if_pos b] at a;exact absurd (by simp) a
       . rename_i b;rw[if_neg b] at a;split
         . rename_i d;rw[if_pos d] at a;exact absurd (by simp) a
         . rename_i d;rw[if_neg d] at a;split
           . rename_i e;rw[if_pos e] at a;exact absurd (by simp) a
           . rename_i e;rw[if_neg e] at a;split
             . rename_i f;rw[if_pos f] at a;exact absurd (by simp) a
             . exact⟨by simp,by omega⟩
theorem Lc (s:Sh)(c a:Int)(b:au):(Sr.append s c a b).1.h.l.length=s.h.l.length:=by
 have d:(Sp.append s.h c a b).1.l.length=s.h.l.length:=by
  unfold Sp.append Sp.nY;split
  . rfl
  . split
    . rfl
    . simp only[];repeat' split
      all_goals first
       | rfl
       | (show(List.set _ _ _).length=_;rw[aO])
 unfold Sr.append Sr.write;repeat' split
 all_goals first
  | rfl
  | exact d
theorem El (a:Int)(f:av):(toldOf a f).length<=11+f.size:=by
 unfold toldOf;have:=(Ch.jW 8 a.toNat).1;have b:f.data.toList.length=f.size:=by rw[aN];rfl
 simp only[aV,aW,bZ];omega
theorem wG:∀(b:List Fm.Pt) {s:Sh} (made:List Int) (a:au),Sr.Ok s->a.length<=120*s.h.l.length->Small (lands s made a b).2
 | [],s,_,a,ok,h=>⟨ay _,(fun p c=>by cases c),(by have:=ok.h.few;show a.length<=_;omega)⟩
 | p :: r, s, made, a, ok, h => by
   unfold lands;split
   . exact wG r made a ok h
   . split
     . exact Small.bare _
     . rename_i d;split
       . exact Small.bare _
       . have f:(Sr.create s p.bytes.length (je p)).2=0:=by
          rcases fE (Sr.create s p.bytes.length (je p)).2 with e | e
          . exact e
          . exact absurd (by omega) d
         obtain⟨g,i⟩:=Ej f;refine wG r _ _ ((ok.create _ _).append _ _ _) ?_;rw[Lc,g,aV];have j:(je p).size=9+p.file.size:=by
          show(BA++p.file.data.toList).toArray.size=_;rw[bL,aV,aN];rfl
         have:=El (s.h.last+1) p.file;omega
theorem NU {s:Sh}(ok:Sr.Ok s)(l:ak)(body:au):Small (land s l body).2:=by
 unfold land;split
 . exact Small.bare _
 . split
   . exact Small.bare _
   . split
     . exact Small.bare _
     . exact wG _ _ _ ok (ay _)
theorem zP {s:Sh}(ok:Sr.Ok s)(m t:av)(l:ak)(body:au):Small (answer Tu.iF s m t l body).2:=by
 unfold answer;split
 . exact⟨(Wi ok m t l body).1,(Wi ok m t l body).2,ay _⟩
 . split
   . exact Small.bare _
   . split
     . exact Small.bare _
     . exact NU ok l body
/-! ### texts -/
theorem Wj (p:av×av):(Rp.pG p).length<=202:=by
 unfold Rp.pG;rw[aV];have:(Fd.text p.1.data.toList p.2.data.toList).1.length<=200:=by
  unfold Fd.text;repeat' split
  all_goals first
   | exact ay _
   | (simp only[aV,aW,bZ];omega)
 simp only[aW,bZ];omega
theorem Ie:∀l:ak,(l.flatMap Rp.pG).length<=202*l.length
 | []=>ay _
 | p :: r => by
   rw[aU,aV,aW];have:=Wj p;have:=Ie r;omega
theorem Wm (st:Int)(l:ak)(a:Nat)(body:au):(Rp.text st l a body).1.length<=4000+body.length:=by
 unfold Rp.text;split
 . exact ay _
 . split
   . exact ay _
   . split
     . exact ay _
     . split
       . exact ay _
       . have b:=Ie l;have c:=Rp.Ku st;have d:=(Ch.jW 8 st.toNat).1;have e:=(Ch.jW 8 body.length).1;have f:Rp.h11.length=9:=rfl;have g:Rp.cl.length=16:=rfl;simp only[Rp.first,aV,aW,bZ];omega
theorem Em {r:zi}(h:Small r):(textOf r).length<=6000:=by
 unfold textOf;have:=Wm (r.1:Int) r.2.1 (Tu.vals ⟨#[99,111,110,116,101,110,116,45,108,101,110,103,116,104]⟩ r.2.1).length r.2.2;have:=h.body;omega
theorem yw (c:Nat):Small (sJ c):=Small.bare _
/-! ### a connection -/
structure yg (c:Cn):Prop where
 rq:Rq.Good c.rq
 hd:Rq.nG c.hd
theorem En:Rq.nG Rq.hd0:=⟨ay _,ay _,ay _,ay _,fun f a=>by cases a⟩
theorem yg.new:yg qC:=⟨Rq.Good.start,En⟩
section
variable (T:abE)
theorem aaG {g:Gs}{e:Rq.Ev}(h:Rq.nG g.hd)(a:e.uI):Rq.nG (ev T g e).hd:=by
 cases e with
 | head x=>exact a
 | body b=>exact h
 | fin=>exact En
 | fail c=>exact En
theorem Wn:∀(l:List Rq.Ev) {g:Gs},Rq.nG g.hd->(∀e∈l,e.uI)->Rq.nG (evs T g l).hd
 | [],_,h,_=>h
 | e::r,_,h,he=>Wn r (aaG T h (he e (by simp))) (fun x a=>he x (by simp[a]))
theorem Eo:∀(l:List Rq.Ev) (g:Gs),(evs T g l).body.length<=g.body.length+Rq.jD l
 | [],_=>aL _
 | e :: r, g => by
   have h:=Eo r (ev T g e);rw[pR];cases e with
   | head x=>exact h
   | body b =>
     have a:(ev T g (.body b)).body.length=g.body.length+b.length:=aV;show _<=_+(b.length+Rq.jD r);omega
   | fin =>
     have a:(ev T g .fin).body.length=0:=rfl;show _<=_+Rq.jD r;omega
   | fail c =>
     have a:(ev T g (.fail c)).body.length=0:=rfl;show _<=_+Rq.jD r;omega
theorem Qw {c:Cn}(h:yg c)(s:Sh)(b:au):yg (feed T s c b).2.1:=⟨h.rq.fold b,Wn T _ (g:=at_ s c) h.hd (Rq.qR b h.rq)⟩
theorem Ig (s:Sh)(c:Cn)(b:au):(feed T s c b).2.1.body.length<=c.body.length+b.length:=by
 have a:=Eo T (Rq.outs c.rq b) (at_ s c);have e:=(Rq.nH b c.rq).2.1;show(evs T (at_ s c) (Rq.outs c.rq b)).body.length<=_;have d:(at_ s c).body=c.body:=rfl;rw[d] at a;omega
end
theorem NV {g:Gs}(ok:Sr.Ok g.s)(e:Rq.Ev):(ev Tu.iF g e).out.length<=g.out.length+6000:=by
 cases e with
 | head x=>exact dI _ _
 | body b=>exact dI _ _
 | fin =>
   show(g.out++textOf _).length<=_;rw[aV];have:=Em (zP ok (txt g.hd.method) (txt g.hd.target) (nu g.hd.fields) g.body);unfold over;omega
 | fail c =>
   show(g.out++textOf _).length<=_;rw[aV];have:=Em (yw c);omega
theorem wI:∀(l:List Rq.Ev) {g:Gs},Sr.Ok g.s->(evs Tu.iF g l).out.length<=g.out.length+6000*l.length
 | [],_,_=>by simp[evs]
 | e :: r, g, ok => by
   have a:=NV ok e;have c:=wI r (VT Tu.iF (fun h m t l b=>Tu.Qu h m t l b) ok e);rw[pR,aW];omega
end Go.Proofs.YtjmndjmhjleabaaGreatDoor.Gt
namespace Go.Proofs.YtjmndjmhjleabaaGreatDoor.Fm
theorem tail_at {l:au}{p:Nat}(n:p<=l.length)(f:∀j (b:j<l.length),p<=j->stroke l[j]=F)(g:p=0∨∃h:p-1<l.length,0<p∧stroke l[p-1]=true):tail l=l.drop p:=by
 have e:l.reverse=(l.drop p).reverse++(l.take p).reverse:=by rw[<-dW,bW]
 have ha:∀c∈(l.drop p).reverse,(!stroke c)=true:=by
  intro c d;rw[List.mem_reverse] at d;obtain⟨j,b,rfl⟩:=List.getElem_of_mem d;rw[bU] at b;rw[List.getElem_drop,f (p+j) (by omega) (by omega)];rfl
 have i:(l.take p).reverse.takeWhile (fun c=>!stroke c)=[]:=by
  rcases g with rfl | ⟨h,o,k⟩
  . rfl
  . obtain⟨q,rfl⟩:∃q,p=q+1:=⟨p-1,by omega⟩;have m:q<l.length:=by simpa using h
    have a:stroke l[q]=true:=by simpa using k
    rw[bN m,dW];show(l[q]::(l.take q).reverse).takeWhile _=[];rw[eU,a];rfl
 unfold tail;rw[e,List.takeWhile_append_of_pos ha,i,bV,List.reverse_reverse]
theorem Ow {c:UInt8}(h:dirty c=F):zC c=c:=by unfold zC;rw[h];rfl
def nO (k:Nat)(l:au):au:=(l.take k).map zC++l.drop k
theorem tH (k:Nat)(l:au):(nO k l).length=l.length:=by
 unfold nO;rw[aV,aD,<-aV,bW]
theorem LD (l:au):nO 0 l=l:=rfl
theorem Ox (l:au):nO l.length l=l.map zC:=by unfold nO;rw[bO,dX,bV]
theorem SG {k:Nat}{l:au}(h:k<l.length):(nO k l)[k]'(by rw[tH];exact h)=l[k]:=by
 unfold nO;rw[List.getElem_append_right (by rw[aD,bX];omega)];simp[List.getElem_drop,Nat.min_eq_left (Nat.le_of_lt h)]
theorem LG {k:Nat}{l:au}(h:k<l.length):nO (k+1) l=(nO k l).set k (zC l[k]):=by
 unfold nO;rw[bN h,bF,aC h,bH _ _ (by rw[aD,bX];omega)];rw[aD,bX,dU (Nat.le_of_lt h),Nat.sub_self];simp;rw[aC h];rfl
theorem LH {k:Nat}{l:au}(h:k<l.length)(hd:dirty l[k]=F):nO (k+1) l=nO k l:=by
 unfold nO;rw[bN h,bF,aC h];simp[Ow hd]
theorem LK {c:UInt8}{t:au}(h:c≠37):dec (c::t)=(dec t).map (c::·):=by rw[dec.eq_def];simp only[];rw[if_neg h]
theorem QH {a b:UInt8}{r:au}(ha:0<=Ch.hex a.toNat)(c:0<=Ch.hex b.toNat):dec (37::a::b::r)=(dec r).map ((16*Ch.hex a.toNat+Ch.hex b.toNat).toNat.toUInt8::·):=by
 rw[dec.eq_def];simp only[];rw[if_pos trivial,if_pos ⟨ha,c⟩]
theorem QI {a b:UInt8}{r:au}(h:¬(0<=Ch.hex a.toNat∧0<=Ch.hex b.toNat)):dec (37::a::b::r)=U:=by
 rw[dec.eq_def];simp only[];rw[if_pos trivial,if_neg h]
theorem Bb {t:au}(h:t.length<2):dec (37::t)=U:=by
 match t,h with
 | [],_=>rw[dec.eq_def];simp only[];rw[if_pos trivial]
 | [_],_=>rw[dec.eq_def];simp only[];rw[if_pos trivial]
 | _::_::_,h=>simp at h;omega
def decs (bs r:au):Option (au):=(dec r).map (bs++·)
theorem WG (bs:au):decs bs []=M bs:=by unfold decs;rw[dec];simp
theorem SI {bs:au}{c:UInt8}{t:au}(h:c≠37):decs bs (c::t)=decs (bs++[c]) t:=by
 unfold decs;rw[LK h,Option.map_map];congr 1;funext x;simp
theorem WH {bs:au}{a b:UInt8}{r:au}(ha:0<=Ch.hex a.toNat)(c:0<=Ch.hex b.toNat):decs bs (37::a::b::r)=decs (bs++[(16*Ch.hex a.toNat+Ch.hex b.toNat).toNat.toUInt8]) r:=by
 unfold decs;rw[QH ha c,Option.map_map];congr 1;funext x;simp
theorem WI {bs:au}{a b:UInt8}{r:au}(h:¬(0<=Ch.hex a.toNat∧0<=Ch.hex b.toNat)):decs bs (37::a::b::r)=U:=by unfold decs;rw[QI h];rfl
theorem Oy {bs t:au}(h:t.length<2):decs bs (37::t)=U:=by unfold decs;rw[Bb h];rfl
theorem Oz (r:au):decs [] r=dec r:=by unfold decs;simp
theorem OA (a b:UInt8):Ch.number 16 6 [a,b]=if 0<=Ch.hex a.toNat∧0<=Ch.hex b.toNat then (16*Ch.hex a.toNat+Ch.hex b.toNat,true) else (0,F):=by
 have c:¬(6:Int)<(([a,b]:au).length:Int):=by simp
 by_cases h:0<=Ch.hex a.toNat∧0<=Ch.hex b.toNat
 . rw[if_pos h,Ch.rF 16 6 _ (by simp) c (by rw[dO,dO,Ch.Gx,Ch.Gx,aH h.1,aH h.2];rfl)];unfold Ch.numOf;simp only[dP,List.foldl_nil];rw[show(0:Int)*16+Ch.hex a.toNat=Ch.hex a.toNat by omega,show Ch.hex a.toNat*16+Ch.hex b.toNat=16*Ch.hex a.toNat+Ch.hex b.toNat by omega]
 . rw[if_neg h,Ch.tN 16 6 _ (by
    rw[dO,dO,Ch.Gx,Ch.Gx];simp only[List.all_nil,Bool.and_true];rw[dw,bP,bP];rcases Decidable.not_and_iff_not_or_not.1 h with h | h
    . exact Or.inl h
    . exact Or.inr h)]
theorem WJ {a b:UInt8}(ha:0<=Ch.hex a.toNat)(c:0<=Ch.hex b.toNat):((16*Ch.hex a.toNat+Ch.hex b.toNat).toNat.toUInt8.toNat:Int)=16*Ch.hex a.toNat+Ch.hex b.toNat∧16*Ch.hex a.toNat+Ch.hex b.toNat<=255:=by
 have d:=(Ch.rD a).2;have f:=(Ch.rD b).2;generalize Ch.hex (a.toNat:Int)=x at *;generalize Ch.hex (b.toNat:Int)=y at *;refine⟨?_,by omega⟩;have:(16*x+y).toNat<256:=by omega
 have e:(16*x+y).toNat.toUInt8.toNat=(16*x+y).toNat:=by simp[Nat.toUInt8];omega
 rw[e];omega
def zX (d:au×Nat):Nat ⊕ List Pm.tK :=
 if d.2≠0 then .inl d.2
 else match Pm.kr d.1 with
  | .inl c=>.inl c
  | .inr x=>if x.1≠Hg then .inl 11 else .inr x.2
def partOf (ps:List Pm.tK)(t:au×Nat):Nat ⊕ YT :=
 match get KF ps with
 | none=>.inl 6
 | some nm => match file ps with
   | none=>.inl 5
   | some f=>if t.2=9 then .inl 9 else .inr ⟨nm,f,t.1⟩
theorem LQ (d t:au×Nat):qg d t=match zX d with
 | .inl c=>.inl c
 | .inr b=>partOf b t:=by
 unfold qg zX partOf;by_cases h:d.2≠0
 . rw[if_pos h,if_pos h]
 . rw[if_neg h,if_neg h];cases Pm.kr d.1 with
   | inl c=>rfl
   | inr x =>
     simp only;by_cases a:x.1≠Hg
     . rw[if_pos a,if_pos a]
     . rw[if_neg a,if_neg a];all_goals
        simp only;cases get KF x.2 with
        | none=>rfl
        | some e=>cases file x.2 <;> rfl
theorem WK {d:au×Nat}{c:Nat}(h:d.2=0)(a:Pm.kr d.1=.inl c):zX d=.inl c:=by unfold zX;rw[if_neg (fun e=>e h),a]
theorem SK {d:au×Nat}{x:au×List Pm.tK}(h:d.2=0)(a:Pm.kr d.1=.inr x)(b:x.1≠Hg):zX d=.inl 11:=by unfold zX;rw[if_neg (fun e=>e h),a];exact if_pos b
theorem ZA {d:au×Nat}{x:au×List Pm.tK}(h:d.2=0)(a:Pm.kr d.1=.inr x)(b:x.1=Hg):zX d=.inr x.2:=by unfold zX;rw[if_neg (fun e=>e h),a];exact if_neg (fun e=>e b)
theorem Jv:∀(n:Nat) (l y:au),l.length<=n->dec l=M y->y.length<=l.length
 | _,[],y,_,h=>by rw[dec] at h;injection h with h;subst h;exact aL _
 | 0,_::_,_,hn,_=>by simp at hn
 | n + 1, c :: t, y, hn, h => by
   simp only[aW] at hn;by_cases f:c=37
   . subst f;match t,hn,h with
     | [],_,h=>rw[Bb (by simp)] at h;cases h
     | [_],_,h=>rw[Bb (by simp)] at h;cases h
     | a :: b :: r, hn, h =>
       by_cases d:0<=Ch.hex a.toNat∧0<=Ch.hex b.toNat
       . rw[QH d.1 d.2] at h;obtain⟨z,e,rfl⟩:=fF.1 h;have:=Jv n r z (by simp only[aW] at hn;omega) e;simp only[aW];omega
       . rw[QI d] at h;cases h
   . rw[LK f] at h;obtain⟨z,e,rfl⟩:=fF.1 h;have:=Jv n t z (by omega) e;simp only[aW];omega
theorem SL {l y:au}(h:coded l=M y):y.length<=l.length:=by
 unfold coded at h;split at h
 . cases h
 . have:=Jv _ _ _ (aL _) h;rw[bU] at this;omega
theorem LU:∀(n:Nat) (r:au) (a b:List Pm.tK),a.length<=8->Pm.uF n r a=.inr b->b.length<=8
 | 0,r,a,b,c,h=>by rw[Pm.uF] at h;injection h with h;subst h;exact c
 | n + 1, r, a, b, c, h => by
   rw[Pm.uF] at h;split at h
   . injection h with h;subst h;exact c
   . split at h
     . cases h
     . split at h
       . cases h
       . split at h
         . cases h
         . rename_i d;exact LU n _ _ b (by rw[aV];simp;omega) h
theorem Ir {l wd:au}{a:List Pm.tK}(h:Pm.kr l=.inr (wd,a)):a.length<=8:=by
 unfold Pm.kr at h;split at h
 . cases h
 . split at h
   . cases h
   . unfold Pm.fin at h;split at h
     . cases h
     . rename_i b;injection h with h;injection h with _ h;subst h;exact LU _ _ _ _ (ay _) b
theorem WL {d:au×Nat}{a:List Pm.tK}(h:zX d=.inr a):a.length<=8∧∀p∈a,p.2.length<=d.1.length:=by
 unfold zX at h;split at h
 . cases h
 . split at h
   . cases h
   . rename_i x b;split at h
     . cases h
     . injection h with h;subst h;exact⟨Ir b,fun p c=>((Pm.AP b).2 p c).2⟩
end Go.Proofs.YtjmndjmhjleabaaGreatDoor.Fm
namespace Go.Proofs.YtjmndjmhjleabaaGreatDoor.Gt
open Sr
structure Ld where
 s:Sh
 ids:List Int
 told:au
 code:Nat
def oP (r:Ld)(p:Fm.Pt):Ld :=
 if (Sr.create r.s p.bytes.length (je p)).2≠0 then { r with code:=(Sr.create r.s p.bytes.length (je p)).2 }
 else if (Sr.append (Sr.create r.s p.bytes.length (je p)).1 (r.s.h.last+1) 0 p.bytes).2≠0 then
  { r with s:=(Sr.drop (Sr.append (Sr.create r.s p.bytes.length (je p)).1 (r.s.h.last+1) 0 p.bytes).1 (r.s.h.last+1)).1,code:=(Sr.append (Sr.create r.s p.bytes.length (je p)).1 (r.s.h.last+1) 0 p.bytes).2 }
 else ⟨(Sr.append (Sr.create r.s p.bytes.length (je p)).1 (r.s.h.last+1) 0 p.bytes).1,r.ids++[r.s.h.last+1],r.told++toldOf (r.s.h.last+1) p.file,0⟩
def adds (r:Ld):List Fm.Pt->Ld
 | []=>r
 | p::t=>if p.file.size=0 then adds r t else if (oP r p).code≠0 then oP r p else adds (oP r p) t
def ends (r:Ld):Sh×zi:=if r.code=0 then (Sr.sync r.s,(201,[],r.told)) else (Sr.sync (oZ r.s r.ids),(stat r.code,[],[]))
theorem LW {s:Sh}{c a:Int}{b:au}(h:(Sr.append s c a b).2≠0):(Sr.append s c a b).1=s:=Tu.oJ h
theorem LX {s:Sh}{z:Int}{m:av}(h:(Sr.create s z m).2≠0):(Sr.create s z m).1=s:=Tu.oJ h
theorem yU:∀(ps:List Fm.Pt) (r:Ld),r.code=0->lands r.s r.ids r.told ps=ends (adds r ps)
 | [],r,h=>by unfold lands adds ends;rw[if_pos h]
 | p :: t, r, h => by
   unfold lands adds;by_cases h0:p.file.size=0
   . rw[if_pos h0,if_pos h0];exact yU t r h
   . rw[if_neg h0,if_neg h0];by_cases h1:(Sr.create r.s p.bytes.length (je p)).2=0
     . by_cases h2:(Sr.append (Sr.create r.s p.bytes.length (je p)).1 (r.s.h.last+1) 0 p.bytes).2=0
       . have ha:oP r p=⟨(Sr.append (Sr.create r.s p.bytes.length (je p)).1 (r.s.h.last+1) 0 p.bytes).1,r.ids++[r.s.h.last+1],r.told++toldOf (r.s.h.last+1) p.file,0⟩:=by
          unfold oP;rw[if_neg (by rw[h1];simp),if_neg (by rw[h2];simp)]
         rw[if_neg (by show ¬(Sr.create r.s p.bytes.length (je p)).2≠0;rw[h1];simp),if_neg (by show ¬(Sr.append (Sr.create r.s p.bytes.length (je p)).1 (r.s.h.last+1) 0 p.bytes).2≠0;rw[h2];simp),ha,if_neg (by simp)];exact yU t ⟨(Sr.append (Sr.create r.s p.bytes.length (je p)).1 (r.s.h.last+1) 0 p.bytes).1,r.ids++[r.s.h.last+1],r.told++toldOf (r.s.h.last+1) p.file,0⟩ rfl
       . have ha:oP r p={ r with s:=(Sr.drop (Sr.append (Sr.create r.s p.bytes.length (je p)).1 (r.s.h.last+1) 0 p.bytes).1 (r.s.h.last+1)).1,code:=(Sr.append (Sr.create r.s p.bytes.length (je p)).1 (r.s.h.last+1) 0 p.bytes).2 }:=by
          unfold oP;rw[if_neg (by rw[h1];simp),if_pos h2]
         rw[if_neg (by show ¬(Sr.create r.s p.bytes.length (je p)).2≠0;rw[h1];simp),if_pos (show(Sr.append (Sr.create r.s p.bytes.length (je p)).1 (r.s.h.last+1) 0 p.bytes).2≠0 from h2),ha,if_pos h2];unfold ends;rw[if_neg h2,LW h2]
     . have ha:oP r p={ r with code:=(Sr.create r.s p.bytes.length (je p)).2 }:=by unfold oP;rw[if_pos h1]
       rw[if_pos (show(Sr.create r.s p.bytes.length (je p)).2≠0 from h1),ha,if_pos h1];unfold ends;rw[if_neg h1]
theorem Jz {r:Ld}(h:Sr.Ok r.s)(p:Fm.Pt):Sr.Ok (oP r p).s:=by
 unfold oP;split
 . exact h
 . split
   . exact((h.create _ _).append _ _ _).drop _
   . exact(h.create _ _).append _ _ _
theorem JA:∀(a:List Fm.Pt) {r:Ld},Sr.Ok r.s->Sr.Ok (adds r a).s
 | [],_,h=>h
 | p :: t, r, h => by
   unfold adds;split
   . exact JA t h
   . split
     . exact Jz h p
     . exact JA t (Jz h p)
structure WR (r:Ld):Prop where
 ok:Sr.Ok r.s
 told:r.told.length<=120*r.ids.length
 few:r.ids.length<=r.s.h.l.length∨r.code≠0
theorem SX {r:Ld}(h:WR r)(d:r.code=0)(p:Fm.Pt):WR (oP r p):=by
 refine⟨Jz h.ok p,?_,?_⟩
 . unfold oP;split
   . exact h.told
   . rename_i a;split
     . exact h.told
     . have b:(Sr.create r.s p.bytes.length (je p)).2=0:=eY a;have e:(je p).size=9+p.file.size:=by
        show(BA++p.file.data.toList).toArray.size=_;rw[bL,aV,aN];rfl
       have c:=(Ej b).2;have f:=El (r.s.h.last+1) p.file;have g:=h.told;simp only[aV,aW,bZ];omega
 . unfold oP;split
   . rename_i a;exact Or.inr a
   . rename_i a;split
     . rename_i c;exact Or.inr c
     . have b:(Sr.create r.s p.bytes.length (je p)).2=0:=eY a;refine Or.inl ?_;show(r.ids++[r.s.h.last+1]).length<=(Sr.append _ _ _ _).1.h.l.length;rw[Lc,(Ej b).1,aV];rcases h.few with h | h
       . simp;omega
       . exact absurd d h
def bs (o:List Fm.Pt):Nat:=(o.map fun p=>p.bytes.length).sum
theorem Bh (a b:List Fm.Pt):bs (a++b)=bs a+bs b:=by unfold bs;rw[bF,List.sum_append]
theorem XB:∀{o:List Fm.Pt} {q:Fm.Pt},q∈o->q.bytes.length<=bs o
 | p :: t, q, h => by
   show _<=p.bytes.length+bs t;rcases fA.1 h with rfl | h
   . omega
   . have:=XB h;omega
theorem ZX (o:List Fm.Pt)(e:iM)(h:e.iq=[]):bs (Fm.laid o e)<=bs o+e.bytes.length:=by
 unfold Fm.laid;split
 . rw[Bh];show _+(e.iq.length+0)<=_;rw[h];show bs o+0<=_;omega
 . split
   . rcases bC o with rfl | ⟨q,p,rfl⟩
     . exact ay _
     . rw[bE,fq,eZ,Bh,Bh];show bs q+(e.bytes.length+0)<=bs q+bs [p]+e.bytes.length;omega
   . omega
theorem TP (o:List Fm.Pt)(e:iM)(h:e.kI.size<=200)(b:∀q∈o,q.file.size<=200):∀q∈Fm.laid o e,q.file.size<=200:=by
 unfold Fm.laid;split
 . intro q a;rcases bA.1 a with a | a
   . exact b q a
   . rw[bB.1 a];exact h
 . split
   . rcases bC o with rfl | ⟨r,p,rfl⟩
     . intro q a;cases a
     . rw[bE] at b ⊢;rw[fq,eZ];intro q a;rcases bA.1 a with a | a
       . exact b q (bI _ a)
       . have:q={ p with bytes:=e.bytes }:=bB.1 a;rw[this];exact b p (dR _ (by simp))
   . exact b
theorem ZY (es:List iM)(h:∀e∈es,Fm.uI e):bs (Fm.pQ es)<=lI es∧∀q∈Fm.pQ es,q.file.size<=200:=by
 have a:∀(m:List iM) (o:List Fm.Pt),(∀e∈m,Fm.uI e)->(∀q∈o,q.file.size<=200)->bs (m.foldl Fm.laid o)<=bs o+lI m∧∀q∈m.foldl Fm.laid o,q.file.size<=200:=by
  intro m;induction m with
  | nil=>intro o _ b;exact⟨aL _,b⟩
  | cons e t g =>
    intro o c b;have d:=c e (by simp);have i:=ZX o e d.iq;have f:=g (Fm.laid o e) (fun x j=>c x (by simp[j])) (TP o e d.kI b);refine⟨?_,f.2⟩;show bs (t.foldl Fm.laid (Fm.laid o e))<=bs o+(e.bytes.length+lI t);have:=f.1;omega
 have:=a es [] h (fun q k=>by cases k);refine⟨?_,this.2⟩;have i:bs (Fm.pQ es)<=0+lI es:=this.1;omega
theorem QV:∀o:List Fm.Pt,room o=bs o+200*o.length
 | []=>rfl
 | p :: t => by
   have:=QV t;unfold room bs at *;simp only[List.map_cons,List.sum_cons,aW];omega
theorem Mw {b body:au}{a:List Fm.Pt}(h:parts b body=M a)(c:3<=(Fm.mark b).length)(d:Fm.Good (Fm.mark b) Fm.start)(g:Fm.start.held<=1000)(i:body.length<=20000):room a<=1000000000∧a.length<=1000000∧∀q∈a,q.bytes.length<=1000000∧q.file.size<=900000:=by
 unfold parts at h;split at h
 . injection h with h;subst h;have j:=Fm.nH c body d;have k:=uG (Fm.outs (Fm.mark b) Fm.start body);have l:=He (Fm.outs (Fm.mark b) Fm.start body);have f:=ZY _ (Fm.oL (Fm.qR c body d));have m:=Fm.BJ (lX (Fm.outs (Fm.mark b) Fm.start body));have n:=QV (Fm.pQ (lX (Fm.outs (Fm.mark b) Fm.start body)));refine⟨by omega,by omega,fun q e=>⟨?_,by have:=f.2 q e;omega⟩⟩;have:q.bytes.length<=bs (Fm.pQ (lX (Fm.outs (Fm.mark b) Fm.start body))):=XB e;omega
 . cases h
theorem XC (r:Ld)(p:Fm.Pt):(oP r p).ids.length<=r.ids.length+1:=by
 unfold oP;split
 . exact Nat.le_succ _
 . split
   . exact Nat.le_succ _
   . simp
theorem E5:∀(a:List Fm.Pt) (r:Ld),(adds r a).ids.length<=r.ids.length+a.length
 | [],_=>aL _
 | p :: t, r => by
   unfold adds;rw[aW];split
   . have:=E5 t r;omega
   . have b:=XC r p;split
     . omega
     . have:=E5 t (oP r p);omega
/-! ### a form, by its ways -/
section
variable {s:Sh} {l:ak} {body b:au} {ps:List Fm.Pt}
theorem TQ (h:bound l=U):land s l body=(s,(415,[],[])):=by unfold land;rw[h]
theorem XD (h:bound l=M b)(a:parts b body=U):land s l body=(s,(400,[],[])):=by
 unfold land;rw[h];show(match parts b body with | none=>_ | some ps=>_)=_;rw[a]
theorem TR (h:bound l=M b)(a:parts b body=M ps)(c:100000<s.log.length+room ps):land s l body=(s,(507,[],[])):=by
 unfold land;rw[h];show(match parts b body with | none=>_ | some ps=>_)=_;rw[a];show(if 100000<s.log.length+room ps then _ else _)=_;rw[if_pos c]
theorem TS (h:bound l=M b)(a:parts b body=M ps)(c:¬100000<s.log.length+room ps):land s l body=ends (adds ⟨s,[],[],0⟩ ps):=by
 unfold land;rw[h];show(match parts b body with | none=>_ | some ps=>_)=_;rw[a];show(if 100000<s.log.length+room ps then _ else _)=_;rw[if_neg c];exact yU ps ⟨s,[],[],0⟩ rfl
end
end Go.Proofs.YtjmndjmhjleabaaGreatDoor.Gt