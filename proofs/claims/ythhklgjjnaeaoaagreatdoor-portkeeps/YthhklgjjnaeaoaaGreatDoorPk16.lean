/- Small texts, one behind the other: PlainHA, PlainHB, PlainHF, PlainHC, PlainHD, PlainHE, PlainHV, PlainHW, PlainGA, PlainGB, PlainGC, PlainPA, PlainHS, PlainHT, PlainHU, PlainGD, PlainGE, PlainPB, MemPX, PlainGF, PlainPC, PlainPF. -/
import Derived.Test.YthhklgjjnaeaoaaGreatDoorPk1
import Derived.Test.YthhklgjjnaeaoaaGreatDoorPk8
import Derived.Test.YthhklgjjnaeaoaaGreatDoorPk12
open Option renaming none->U,some->M
open Bool renaming false->F
open Go renaming World->X
namespace Go.Proofs.YthhklgjjnaeaoaaGreatDoor.Fm
def stroke (c:UInt8):Bool:=c==47||c==92
def tail (l:av):av:=(l.reverse.takeWhile fun c=>!stroke c).reverse
def dirty (c:UInt8):Bool:=c==9||c==34||c==58||!Ch.visible c.toNat
def yM (c:UInt8):UInt8:=if dirty c then 95 else c
def F5 (l:av):av:=l.dropWhile (·==46)
def AR:av:=[102,105,108,101]
def named (l:av):av:=if l=[] then AR else l
def safe (l:av):av:=named ((F5 ((tail l).map yM)).take 40)
def dec:av->Option (av)
 | []=>M []
 | c :: t => if c = 37 then (match t with
     | a::b::r=>if 0<=Ch.hex a.toNat∧0<=Ch.hex b.toNat then (dec r).map ((16*Ch.hex a.toNat+Ch.hex b.toNat).toNat.toUInt8::·) else U
     | _=>U)
  else (dec t).map (c::·)
def adl:av:=[117,116,102,45,56,39,39]
def coded (l:av):Option (av):=if l.length<7∨Ch.lower (l.take 7)≠adl then U else dec (l.drop 7)
def get (n:av)(ps:List Pm.rT):Option (av):=(ps.find? fun p=>p.1==n).map (·.2)
def JZ:av:=[110,97,109,101]
def MS:av:=[102,105,108,101,110,97,109,101]
def Ig:av:=[102,105,108,101,110,97,109,101,42]
def Da:av:=[102,111,114,109,45,100,97,116,97]
def Vs:av:=[99,111,110,116,101,110,116,45,100,105,115,112,111,115,105,116,105,111,110]
def nType:av:=[99,111,110,116,101,110,116,45,116,121,112,101]
def file (ps:List Pm.rT):Option (av) :=
 match get Ig ps with
 | some x=>(coded x).map safe
 | none => match get MS ps with
   | some x=>M (safe x)
   | none=>M []
structure YR where
 name:av
 file:av
 type:av
def one:List (av)->av×Nat
 | []=>([],10)
 | [v]=>(v,0)
 | _=>([],9)
def qH (d t:av×Nat):Nat ⊕ YR :=
 if d.2≠0 then .inl d.2
 else match Pm.jL d.1 with
  | .inl c=>.inl c
  | .inr x => if x.1 ≠ Da then .inl 11
    else match get JZ x.2 with
     | none=>.inl 6
     | some nm => match file x.2 with
       | none=>.inl 5
       | some f=>if t.2=9 then .inl 9 else .inr ⟨nm,f,t.1⟩
def part (fs:List Rq.Fl):Nat ⊕ YR:=qH (one (Rq.vals fs Vs)) (one (Rq.vals fs nType))
def PX (p:YR):iH:=⟨5,⟨#[]⟩,⟨#[]⟩,0,[],0,[],⟨p.name.toArray⟩,⟨p.file.toArray⟩,⟨p.type.toArray⟩,[],0⟩
def J2:iH:=⟨6,⟨#[]⟩,⟨#[]⟩,0,[],0,[],⟨#[]⟩,⟨#[]⟩,⟨#[]⟩,[],0⟩
def adn:iH:=⟨3,⟨#[]⟩,⟨#[]⟩,0,[],0,[],⟨#[]⟩,⟨#[]⟩,⟨#[]⟩,[],0⟩
def Vt (c:Nat):iH:=⟨4,⟨#[]⟩,⟨#[]⟩,0,[],0,[],⟨#[]⟩,⟨#[]⟩,⟨#[]⟩,[],(c:Int)⟩
def nG (l:av):List iH:=if l=[] then [] else [jC l]
structure St where
 place:Nat
 held:Nat
 ahead:Nat
 ln:Ln.St
 fields:List Rq.Fl
 parts:Nat
 code:Nat
def zero:St:=⟨0,0,0,Ln.start,[],0,0⟩
def start:St:=⟨0,2,2,Ln.start,[],0,0⟩
def failed (c:Nat):St:={ zero with code:=c }
def done:St:={ zero with place:=6 }
def live (s:St):Prop:=s.code=0∧s.place≠6
instance (s:St):Decidable (live s):=by unfold live;infer_instance
def turn (p:Nat)(c:UInt8):Nat×Nat :=
 if p=4 then (if c=10 then (5,0) else (0,2))
 else if p=2 then (if c=45 then (6,0) else (0,5))
 else if p=1∧c=45 then (2,0)
 else if c=32∨c=9 then (3,0)
 else if c=13 then (4,0)
 else (0,5)
def fails (c:Nat):St×List iH:=(failed c,[Vt c])
def line (s:St)(t:av):St×List iH :=
 if t≠[] then
  if s.fields.length=16 then fails 8
  else if (Fd.of t).code≠0 then fails (Fd.of t).code
  else ({ s with fields:=s.fields++[((Fd.of t).name,(Fd.of t).value)] },[])
 else match part s.fields with
  | .inl c=>fails c
  | .inr p=>if s.parts=12 then fails 8 else ({ s with fields:=[],parts:=s.parts+1,place:=0,held:=2,ahead:=2 },[PX p])
def next (m:av)(s:St)(c:UInt8):St×List iH :=
 if ¬live s then (s,[])
 else if s.place=0 then
  ({ s with held := Sk.after m s.held c, ahead := s.ahead-(Sk.out m s.held c).length, place := if Sk.found m s.held c then 1 else 0 },
   if 0<s.parts then nG ((Sk.out m s.held c).drop s.ahead)++(if Sk.found m s.held c then [J2] else []) else [])
 else if s.place=5 then
  if (Ln.next s.ln c).code≠0 then fails (Ln.next s.ln c).code
  else if Ln.ends s.ln c then line { s with ln:=Ln.next s.ln c } (Ln.text s.ln c)
  else ({ s with ln:=Ln.next s.ln c },[])
 else if (turn s.place c).2≠0 then fails (turn s.place c).2
 else if (turn s.place c).1=6 then (done,[adn])
 else ({ s with place:=(turn s.place c).1 },[])
def fold (m:av):St->av->St
 | s,[]=>s
 | s,c::t=>fold m (next m s c).1 t
def outs (m:av):St->av->List iH
 | _,[]=>[]
 | s,c::t=>(next m s c).2++outs m (next m s c).1 t
def close (s:St):Nat:=if s.code=0∧s.place≠6 then 14 else s.code
def mark (b:av):av:=13::10::45::45::b
def kV (b:av):Bool:=!b.isEmpty&&decide (b.length<=70)&&Ch.gV b&&decide (Lib.trimS b Ch.ws=b)
theorem lQ (m:av):∀(a b:av) (s:St),fold m s (a++b)=fold m (fold m s a) b
 | [],_,_=>rfl
 | _::t,b,_=>lQ m t b _
theorem oO (m:av):∀(a b:av) (s:St),outs m s (a++b)=outs m s a++outs m (fold m s a) b:=by intro l;induction l <;> grind [outs,fold]
theorem zW (m:av)(s:St)(l:av)(c:UInt8):fold m s (l++[c])=(next m (fold m s l) c).1:=by rw[lQ];rfl
theorem zX (m:av)(s:St)(l:av)(c:UInt8):outs m s (l++[c])=outs m s l++(next m (fold m s l) c).2:=by grind [outs,next,fold,oO]
theorem Ri {m:av}{s:St}(h:¬live s)(c:UInt8):next m s c=(s,[]):=by unfold next;rw[if_pos h]
theorem sF {m:av}:∀(l:av) {s:St},¬live s->outs m s l=[]∧fold m s l=s
 | [],_,_=>⟨rfl,rfl⟩
 | c :: t, s, h => by
   have a:=sF (m:=m) t h;show(next m s c).2++outs m (next m s c).1 t=[]∧fold m (next m s c).1 t=s;rw[Ri h];exact a
structure Td where
 es:List iH
 bs:av
def flush (t:Td):List iH:=t.es++nG t.bs
def tell (t:Td)(e:iH):Td:=if e.kind=2 then ⟨t.es,t.bs++e.bytes⟩ else ⟨flush t++[e],[]⟩
def tells (t:Td)(l:List iH):Td:=l.foldl tell t
def EX:Td:=⟨[],[]⟩
def Clean (l:List iH):Prop:=∀e∈l,e.kind=2->e=jC e.bytes∧e.bytes≠[]
theorem Clean.append {a b:List iH}(h:Clean a)(k:Clean b):Clean (a++b):=by grind [Clean]
theorem clean_nil:Clean []:=fun e a=>by cases a
theorem J3 (l:av):Clean (nG l):=by
 unfold nG;split
 . exact clean_nil
 . rename_i h;intro e a _;rw[bA.1 a];exact⟨rfl,h⟩
theorem wM {e:iH}(h:e.kind≠2):Clean [e]:=fun x a k=>by rw[bA.1 a] at k;exact absurd k h
theorem nH (c:Nat):Clean (fails c).2:=wM (by show(4:Int)≠2;decide)
theorem MU (s:St)(t:av):Clean (line s t).2:=by
 unfold line;split
 . split
   . exact nH _
   . split
     . exact nH _
     . exact clean_nil
 . split
   . exact nH _
   . split
     . exact nH _
     . exact wM (by show(5:Int)≠2;decide)
theorem MV (m:av)(s:St)(c:UInt8):Clean (next m s c).2:=by
 unfold next;split
 . exact clean_nil
 . split
   . show Clean (if 0<s.parts then _ else _);split
     . refine Clean.append (J3 _) ?_;split
       . exact wM (by decide)
       . exact clean_nil
     . exact clean_nil
   . split
     . split
       . exact nH _
       . split
         . exact MU _ _
         . exact clean_nil
     . split
       . exact nH _
       . split
         . exact wM (by decide)
         . exact clean_nil
theorem xQ (m:av):∀(l:av) (s:St),Clean (outs m s l)
 | [],_=>clean_nil
 | c::t,s=>(MV m s c).append (xQ m t _)
theorem MW (t:Td)(l:List iH)(e:iH):tells t (l++[e])=tell (tells t l) e:=by unfold tells;rw[dY];rfl
theorem yN (t:Td)(a b:List iH):tells t (a++b)=tells (tells t a) b:=by unfold tells;rw[dY]
theorem AU (l:List iH)(h:Clean l):flush (tells EX l)=lT l∧tailD (tells EX l).es=F:=by
 have:∀n (l:List iH),l.length=n->Clean l->flush (tells EX l)=lT l∧tailD (tells EX l).es=F:=by
  intro n;induction n with
  | zero=>intro l b _;rw[dh b];exact⟨rfl,rfl⟩
  | succ n j =>
    intro l b d;rcases bB l with rfl | ⟨q,x,rfl⟩
    . simp at b
    . rw[bD] at b d ⊢;obtain⟨g,c⟩:=j q (by simpa using b) (fun e k=>d e (bH _ k));rw[MW,C9,<-g];generalize tells EX q=t at g c;obtain⟨es,bs⟩:=t;simp only at c;by_cases a:x.kind=2
      . obtain⟨m,f⟩:=d x (by simp) a;unfold tell;rw[if_pos a];refine⟨?_,c⟩;unfold flush nG;simp only;rw[if_neg (by simp[f])];by_cases i:bs=[]
        . subst i;rw[if_pos rfl,bU,nk _ _ (fun _=>c),dx,<-m]
        . rw[if_neg i,ow _ _ _ rfl a];rfl
      . unfold tell;rw[if_neg a];refine⟨?_,?_⟩
        . rw[nk _ _ (fun e=>absurd e a)];show(_++[x])++nG []=_;simp[nG]
        . show tailD (_++[x])=F;rw[qF,aJ a]
 exact this _ l rfl h
structure Good (m:av)(s:St):Prop where
 place:s.place<=6
 held:s.held<=m.length-1
 idle:s.place≠0->s.held=0
 ln:Ln.Good s.ln
 lc:s.ln.code=0
 many:s.fields.length<=16
 short:∀f∈s.fields,f.1.length<=200∧f.2.length<=200
 bare:s.place≠5->s.ln=Ln.start∧s.fields=[]
 parts:s.parts<=12
 code:s.code<=20
theorem Good.start {m:av}(b:3<=m.length):Good m start:=⟨aA _,by show 2<=_;omega,fun h=>absurd rfl h,Ln.Good.start,rfl,aA _,(fun f a=>by cases a),fun _=>⟨rfl,rfl⟩,aA _,aA _⟩
theorem Good.failed {m:av}{c:Nat}(a:c<=20):Good m (failed c):=⟨aA _,aA _,fun _=>rfl,Ln.Good.start,rfl,aA _,(fun f b=>by cases b),fun _=>⟨rfl,rfl⟩,aA _,a⟩
theorem Good.done {m:av}:Good m done:=⟨aM _,aA _,fun _=>rfl,Ln.Good.start,rfl,aA _,(fun f a=>by cases a),fun _=>⟨rfl,rfl⟩,aA _,aA _⟩
theorem Vv (m:av)(h:Nat)(c:UInt8)(b:0<m.length):Sk.after m h c<=m.length-1:=by
 unfold Sk.after;split
 . exact aA _
 . rename_i a;have d:=Sk.MR m h c;unfold Sk.found at a;rw[aI b,Bool.true_and,bP] at a;omega
theorem Df {s:Ln.St}{c:UInt8}(h:Ln.ends s c=true):Ln.next s c=Ln.start:=by grind [Ln.ends,Ln.next,Ln.start]
theorem Vw (s:Ln.St)(c:UInt8):Ln.fault s c<=4:=by grind [Ln.fault]
theorem Rk {s:Ln.St}(c:UInt8)(h:s.code=0):(Ln.next s c).code<=4:=by grind [Ln.next,Vw]
theorem YV (t:av):(Fd.of t).code<=20:=by
 unfold Fd.of Fd.bad;repeat' split
 all_goals (first | exact aA _ | (simp only;omega) | decide)
theorem PZ (p:Nat)(c:UInt8):(turn p c).1<=6∧(turn p c).2<=20:=by
 unfold turn;repeat' split
 all_goals decide
theorem abg {r:av}{c:Nat}(h:Pm.val r=.inl c):c<=20:=by grind [Pm.val]
theorem abh {r:av}{c:Nat}(h:Pm.par r=.inl c):c<=20:=by
 unfold Pm.par at h;split at h
 . simp only[] at h;split at h
   . injection h with h;omega
   . split at h
     . split at h
       . rename_i a;injection h with h;subst h;exact abg a
       . cases h
     . injection h with h;omega
 . injection h with h;omega
theorem P7:∀(n:Nat) (r:av) (a:List Pm.rT) (c:Nat),Pm.tN n r a=.inl c->c<=20
 | 0,r,a,c,h=>by rw[Pm.tN] at h;cases h
 | n + 1, r, a, c, h => by
   rw[Pm.tN] at h;split at h
   . cases h
   . split at h
     . rename_i b;injection h with h;subst h;exact abh b
     . split at h
       . injection h with h;omega
       . split at h
         . injection h with h;omega
         . exact P7 n _ _ c h
theorem Vx {l:av}{c:Nat}(h:Pm.jL l=.inl c):c<=20:=by
 unfold Pm.jL at h;split at h
 . injection h with h;omega
 . split at h
   . rename_i a;injection h with h;subst h;unfold Pm.wrd at a;simp only[] at a;repeat' split at a
     all_goals (first | (injection a with a;omega) | (cases a;done))
   . unfold Pm.fin at h;split at h
     . rename_i b;injection h with h;subst h;exact P7 _ _ _ _ b
     . cases h
theorem YW {a:List Rq.Fl}{c:Nat}(h:part a=.inl c):c<=20:=by
 unfold part qH at h;split at h
 . injection h with h;subst h;unfold one;split <;> (first | exact aA _ | decide)
 . split at h
   . rename_i b;injection h with h;subst h;exact Vx b
   . repeat' split at h
     all_goals (first | (injection h with h;omega) | (cases h;done))
theorem Good.line {m:av}{s:St}(h:Good m s)(i:3<=m.length)(c:s.place=5)(d:s.ln=Ln.start){t:av}(j:t.length<=200):Good m (line s t).1:=by
 unfold Fm.line;split
 . split
   . exact Good.failed (by omega)
   . split
     . exact Good.failed (YV t)
     . rename_i g a;have:=Fd.F6 t;refine⟨h.place,h.held,h.idle,h.ln,h.lc,?_,fun f a=>?_,fun e=>absurd c e,h.parts,h.code⟩
       . have:=h.many;show(s.fields++[_]).length<=16;rw[aV];simp;omega
       . rcases bq.1 a with a | a
         . exact h.short f a
         . rw[bA.1 a];exact⟨by show(Fd.of t).name.length<=_;omega,by show(Fd.of t).value.length<=_;omega⟩
 . split
   . rename_i b;exact Good.failed (YW b)
   . split
     . exact Good.failed (by omega)
     . rename_i b;have:=h.parts;exact⟨aA _,by show 2<=_;omega,fun e=>absurd rfl e,h.ln,h.lc,aA _,(fun f a=>by cases a),fun _=>⟨d,rfl⟩,by show s.parts+1<=12;omega,h.code⟩
theorem Good.next {m:av}{s:St}(h:Good m s)(f:3<=m.length)(c:UInt8):Good m (next m s c).1:=by
 unfold Fm.next;split
 . exact h
 . split
   . rename_i b;refine⟨?_,Vv m _ c (by omega),fun e=>?_,h.ln,h.lc,h.many,h.short,fun _=>h.bare (by omega),h.parts,h.code⟩
     . show(if _ then 1 else 0)<=6;split <;> omega
     . show Sk.after m s.held c=0;unfold Sk.after;cases g:Sk.found m s.held c
       . exfalso;exact e (by show(if Sk.found m s.held c then 1 else 0)=0;rw[g];rfl)
       . rfl
   . rename_i b;split
     . rename_i a;split
       . exact Good.failed (by have:=Rk c h.lc;omega)
       . rename_i j;have d:Good m { s with ln:=Ln.next s.ln c }:=⟨h.place,h.held,h.idle,Ln.wH h.ln,by show(Ln.next s.ln c).code=0;omega,h.many,h.short,fun e=>absurd a e,h.parts,h.code⟩;split
         . rename_i i;exact d.line f a (Df i) (Rq.tY h.ln).1
         . exact d
     . rename_i a;split
       . exact Good.failed (PZ _ _).2
       . split
         . exact Good.done
         . rename_i k l;exact⟨(PZ _ _).1,h.held,fun _=>h.idle b,h.ln,h.lc,h.many,h.short,fun _=>h.bare a,h.parts,h.code⟩
theorem Good.fold {m:av}(a:3<=m.length):∀(l:av) {s:St},Good m s->Good m (fold m s l)
 | [],_,h=>h
 | c::t,_,h=>Good.fold a t (h.next a c)
theorem xR (m:av)(h:Nat)(c:UInt8)(a:h<=m.length-1):(Sk.out m h c).length+Sk.after m h c<=h+1:=by grind [Sk.out,Sk.after,Sk.Ci,Sk.FZ]
theorem F9 (l:av):lC (nG l)=l.length:=by
 unfold nG;split
 . rename_i h;subst h;rfl
 . simp[lC,jC]
theorem Vy (s:St)(t:av):lC (line s t).2=0∧(line s t).2.length<=1:=by
 unfold line;split
 . split
   . exact⟨rfl,aM _⟩
   . split
     . exact⟨rfl,aM _⟩
     . exact⟨rfl,aA _⟩
 . split
   . exact⟨rfl,aM _⟩
   . split
     . exact⟨rfl,aM _⟩
     . exact⟨rfl,aM _⟩
theorem Rl {s:St}(t:av)(a:s.held=0):(line s t).1.held<=2:=by
 unfold line;split
 . split
   . exact aA _
   . split
     . exact aA _
     . show s.held<=2;omega
 . split
   . exact aA _
   . split
     . exact aA _
     . exact aM _
theorem Vz {m:av}{s:St}(h:Good m s)(c:UInt8):lC (next m s c).2+(next m s c).1.held<=s.held+2∧(next m s c).2.length<=2:=by
 unfold next;split
 . exact⟨by show 0+s.held<=_;omega,aA _⟩
 . split
   . have a:=xR m s.held c h.held;have b:lC (if Sk.found m s.held c then [J2] else [])=0:=by split <;> rfl
     have f:(if Sk.found m s.held c then [J2] else []).length<=1:=by split <;> simp
     have g:(nG ((Sk.out m s.held c).drop s.ahead)).length<=1:=by unfold nG;split <;> simp
     have i:((Sk.out m s.held c).drop s.ahead).length<=(Sk.out m s.held c).length:=by rw[bT];omega
     show lC (if 0<s.parts then _ else _)+Sk.after m s.held c<=_∧(if 0<s.parts then _ else _:List iH).length<=2;split
     . rw[nE,b,F9,aV];exact⟨by omega,by omega⟩
     . exact⟨by show 0+_<=_;omega,aA _⟩
   . split
     . rename_i d j;have e:=h.idle d;split
       . exact⟨by show 0+0<=_;omega,by show 1<=2;omega⟩
       . split
         . have a:=Vy { s with ln:=Ln.next s.ln c } (Ln.text s.ln c);have k:=Rl (s:={ s with ln:=Ln.next s.ln c }) (Ln.text s.ln c) e;exact⟨by omega,by omega⟩
         . exact⟨by show 0+s.held<=_;omega,aA _⟩
     . split
       . exact⟨by show 0+0<=_;omega,by show 1<=2;omega⟩
       . split
         . exact⟨by show 0+0<=_;omega,by show 1<=2;omega⟩
         . exact⟨by show 0+s.held<=_;omega,aA _⟩
theorem oV {m:av}(a:3<=m.length):∀(l:av) {s:St},Good m s->lC (outs m s l)+(fold m s l).held<=s.held+2*l.length∧(outs m s l).length<=2*l.length
 | [],_,_=>⟨by show 0+_<=_;simp[fold],aA _⟩
 | c :: t, s, h => by
   have b:=Vz h c;have d:=oV a t (h.next a c);show lC ((next m s c).2++outs m (next m s c).1 t)+(fold m (next m s c).1 t).held<=_∧((next m s c).2++outs m (next m s c).1 t).length<=_;rw[nE,aV,aW];exact⟨by omega,by omega⟩
end Go.Proofs.YthhklgjjnaeaoaaGreatDoor.Fm
namespace Go.Proofs.YthhklgjjnaeaoaaGreatDoor
namespace Fm
structure tX (e:iH):Prop where
 method:e.method.size=0
 target:e.target.size=0
 fields:e.fields=[]
 gT:e.gT=[]
 kK:e.kK.size<=200
 ku:e.ku.size<=200
 ptype:e.ptype.size<=200
theorem Ga (b:av):tX (jC b):=⟨rfl,rfl,rfl,rfl,aA _,aA _,aA _⟩
theorem qp (c:Nat):tX (Vt c):=⟨rfl,rfl,rfl,rfl,aA _,aA _,aA _⟩
theorem Kh (l:av):(safe l).length<=40:=by
 unfold safe named;split
 . decide
 . rw[bW];omega
theorem get_mem {n:av}{a:List Pm.rT}{v:av}(h:get n a=M v):∃p∈a,p.2=v:=by
 unfold get at h;obtain⟨p,b,rfl⟩:=eG.1 h;exact⟨p,List.mem_of_find?_eq_some b,rfl⟩
theorem VA {a:List Pm.rT}{f:av}(h:file a=M f):f.length<=40:=by
 unfold file at h;split at h
 . obtain⟨x,_,rfl⟩:=eG.1 h;exact Kh x
 . split at h
   . injection h with h;subst h;exact Kh _
   . injection h with h;subst h;exact aA _
theorem P9 {a:List (av)}{N:Nat}(h:∀v∈a,v.length<=N):(one a).1.length<=N:=by
 unfold one;split
 . exact aA _
 . exact h _ (by simp)
 . exact aA _
theorem Ki {a:List Rq.Fl}{n:av}{N:Nat}(h:∀f∈a,f.2.length<=N):∀v∈Rq.vals a n,v.length<=N:=fun v b=>by
 unfold Rq.vals at b;obtain⟨f,c,rfl⟩:=aN.1 b;exact h f (List.mem_filter.1 c).1
theorem VB {b:List Rq.Fl}{p:YR}{N:Nat}(h:part b=.inr p)(c:∀f∈b,f.2.length<=N):p.name.length<=N∧p.file.length<=40∧p.type.length<=N:=by
 have l:=P9 (Ki (n:=Vs) c);have d:=P9 (Ki (n:=nType) c);unfold part qH at h;split at h
 . cases h
 . split at h
   . cases h
   . rename_i x g;split at h
     . cases h
     . split at h
       . cases h
       . rename_i i j;split at h
         . cases h
         . rename_i f a;split at h
           . cases h
           . injection h with h;subst h;obtain⟨q,k,e⟩:=get_mem j;have:=(Pm.zY g).2 q k;exact⟨by show i.length<=N;rw[<-e];omega,VA a,d⟩
theorem Rm {m:av}{s:St}(h:Good m s)(t:av):∀e∈(line s t).2,tX e:=by
 unfold line;split
 . split
   . intro e a;rw[bA.1 a];exact qp 8
   . split
     . intro e a;rw[bA.1 a];exact qp _
     . intro e a;cases a
 . split
   . intro e a;rw[bA.1 a];exact qp _
   . split
     . intro e a;rw[bA.1 a];exact qp 8
     . rename_i p b _;have:=VB b (fun f c=>(h.short f c).2);intro e a;rw[bA.1 a];refine⟨rfl,rfl,rfl,rfl,?_,?_,?_⟩
       . show p.name.toArray.size<=_;rw[bK];omega
       . show p.file.toArray.size<=_;rw[bK];omega
       . show p.type.toArray.size<=_;rw[bK];omega
theorem Rn {m:av}{s:St}(h:Good m s)(c:UInt8):∀e∈(next m s c).2,tX e:=by
 unfold next;split
 . intro e a;cases a
 . split
   . show ∀e∈(if 0<s.parts then _ else _),tX e;split
     . intro e a;rcases bq.1 a with a | a
       . unfold nG at a;split at a
         . cases a
         . rw[bA.1 a];exact Ga _
       . split at a
         . rw[bA.1 a];exact⟨rfl,rfl,rfl,rfl,aA _,aA _,aA _⟩
         . cases a
     . intro e a;cases a
   . split
     . rename_i b;split
       . intro e a;rw[bA.1 a];exact qp _
       . rename_i d;split
         . exact Rm (m:=m) (s:={ s with ln:=Ln.next s.ln c }) ⟨h.place,h.held,h.idle,Ln.wH h.ln,by show(Ln.next s.ln c).code=0;omega,h.many,h.short,fun e=>absurd b e,h.parts,h.code⟩ _
         . intro e a;cases a
     . split
       . intro e a;rw[bA.1 a];exact qp _
       . split
         . intro e a;rw[bA.1 a];exact⟨rfl,rfl,rfl,rfl,aA _,aA _,aA _⟩
         . intro e a;cases a
theorem qo {m:av}(b:3<=m.length):∀(l:av) {s:St},Good m s->∀e∈outs m s l,tX e
 | [],_,_=>fun e a=>by cases a
 | c :: t, s, h => fun e a => by
   rcases bq.1 a with a | a
   . exact Rn h c e a
   . exact qo b t (h.next b c) e a
theorem oz {l:List iH}(h:∀e∈l,tX e):∀e∈lT l,tX e:=Rh Ga l h
end Fm
end Go.Proofs.YthhklgjjnaeaoaaGreatDoor
namespace Go.Proofs.YthhklgjjnaeaoaaGreatDoor.Fm
theorem Ro (m:av){s:St}(a:s.place=5)(b:s.code=0)(c:UInt8):next m s c=if (Ln.next s.ln c).code≠0 then fails (Ln.next s.ln c).code else if Ln.ends s.ln c then line { s with ln:=Ln.next s.ln c } (Ln.text s.ln c) else ({ s with ln:=Ln.next s.ln c },[]):=by
 unfold next;rw[if_neg (fun h=>h ⟨b,by omega⟩),if_neg (by omega),if_pos a]
theorem Kj {c:Nat}(h:c≠0):¬live (failed c):=fun k=>h k.1
theorem Rs:¬live done:=fun k=>k.2 rfl
theorem AY (t:Td)(l:av):tells t (nG l)=⟨t.es,t.bs++l⟩:=by
 unfold nG;split
 . rename_i h;subst h;rw[bU];rfl
 . show tell t (jC l)=_;unfold tell;rw[if_pos (show(jC l).kind=2 from rfl)];rfl
theorem Rt (m:av){s:St}(b:s.place=1∨s.place=2∨s.place=3∨s.place=4)(a:s.code=0)(c:UInt8):next m s c=if (turn s.place c).2≠0 then fails (turn s.place c).2 else if (turn s.place c).1=6 then (done,[adn]) else ({ s with place:=(turn s.place c).1 },[]):=by
 unfold next;rw[if_neg (fun h=>h ⟨a,by omega⟩),if_neg (by omega),if_neg (by omega)]
theorem Ru (p:Nat)(c:UInt8):(turn p c).1=6->(turn p c).2=0:=by grind [turn]
theorem Rv {s:St}{b:List Rq.Fl}{p:YR}(c:part b=.inr p)(a:s.parts≠12):line { s with fields:=b } []=({ s with fields:=[],parts:=s.parts+1,place:=0,held:=2,ahead:=2 },[PX p]):=by
 unfold line;rw[if_neg (fun h=>h rfl)];simp only[c];rw[if_neg a]
theorem VD {r:av}{c:Nat}(h:Pm.val r=.inl c):c≠0:=by grind [Pm.val]
theorem VE {r:av}{c:Nat}(h:Pm.par r=.inl c):c≠0:=by grind [Pm.par,VD]
theorem Gb:∀(n:Nat) (r:av) (a:List Pm.rT) (c:Nat),Pm.tN n r a=.inl c->c≠0
 | 0,r,a,c,h=>by rw[Pm.tN] at h;cases h
 | n + 1, r, a, c, h => by
   rw[Pm.tN] at h;split at h
   . cases h
   . split at h
     . rename_i b;injection h with h;subst h;exact VE b
     . split at h
       . injection h with h;omega
       . split at h
         . injection h with h;omega
         . exact Gb n _ _ c h
theorem Dg {l:av}{c:Nat}(h:Pm.jL l=.inl c):c≠0:=by
 unfold Pm.jL at h;split at h
 . injection h with h;omega
 . split at h
   . rename_i a;injection h with h;subst h;unfold Pm.wrd at a;simp only[] at a;repeat' split at a
     all_goals (first | (injection a with a;omega) | (cases a;done))
   . unfold Pm.fin at h;split at h
     . rename_i b;injection h with h;subst h;exact Gb _ _ _ _ b
     . cases h
theorem Rw {a:List Rq.Fl}{c:Nat}(h:part a=.inl c):c≠0:=by
 unfold part qH at h;split at h
 . rename_i b;injection h with h;subst h;exact b
 . split at h
   . rename_i d;injection h with h;subst h;exact Dg d
   . repeat' split at h
     all_goals (first | (injection h with h;omega) | (cases h;done))
theorem M0 (s:St)(t:av)(h:s.ahead<=2):(line s t).1.ahead<=2:=by
 unfold line;split
 . split
   . exact aA _
   . split
     . exact aA _
     . exact h
 . split
   . exact aA _
   . split
     . exact aA _
     . exact aM _
theorem M4 (m:av)(s:St)(c:UInt8)(h:s.ahead<=2):(next m s c).1.ahead<=2:=by
 unfold next;split
 . exact h
 . split
   . show s.ahead-_<=2;omega
   . split
     . split
       . exact aA _
       . split
         . exact M0 _ _ h
         . exact h
     . split
       . exact aA _
       . split
         . exact aA _
         . exact h
theorem Dh (m:av):∀(l:av) (s:St),s.ahead<=2->(fold m s l).ahead<=2
 | [],_,h=>h
 | c::t,s,h=>Dh m t _ (M4 m s c h)
theorem Rx {m:av}(c:3<=m.length){s:St}(h:Good m s)(l:av):(tells EX (outs m s l)).es.length<=2*l.length∧(tells EX (outs m s l)).bs.length<=s.held+2*l.length:=by
 have e:=oV c l h;have d:=(AU _ (xQ m l s)).1;have a:=tT (outs m s l);have b:=F4 (outs m s l);rw[<-d] at a b;generalize tells EX (outs m s l)=t at *;obtain⟨es,bs⟩:=t;unfold flush at a b;simp only at *;rw[aV] at a;rw[nE,F9] at b;exact⟨by omega,by omega⟩
theorem Di (b:av)(h:b≠[])(a:b.length<=70):(mark b).take 2=[13,10]∧5<=(mark b).length∧(mark b).length<=74:=by
 refine⟨rfl,?_,?_⟩
 . have:=eu.2 h;show 5<=b.length+1+1+1+1;omega
 . show b.length+1+1+1+1<=74;omega
def jH (l:List iH):Prop:=∃x∈l,x.kind=5
def yB (l:List iH):Prop:=∀q e r,l=q++e::r->e.kind=2->jH q
theorem jH.left {a b:List iH}(h:jH a):jH (a++b):=by grind [jH]
theorem yB.nil:yB []:=by simp_all [yB]
theorem yB.snoc {q:List iH}{e:iH}(h:yB q)(f:e.kind=2->jH q):yB (q++[e]):=by
 intro g i r a d;rcases bB r with rfl | ⟨j,x,rfl⟩
 . obtain⟨b,c⟩:=bF a rfl;subst b;injection c with c;subst c;exact f d
 . rw[bD,<-dR,<-dO] at a;obtain⟨b,_⟩:=bF a rfl;exact h g i j b d
theorem yB.front {a b:List iH}(h:yB (a++b)):yB a:=fun q e r c d=>h q e (r++b) (by rw[c];simp) d
theorem Kk {l:List iH}{e:iH}(h:jH l∨e.kind=5):jH (sI l e):=by grind [jH,sI,qY,ow,nk]
theorem Kl:∀(n:Nat) (l:List iH),l.length=n->yB l->yB (lT l)∧(jH l->jH (lT l))
 | 0,l,c,_=>by rw[dh c];exact⟨yB.nil,fun h=>h⟩
 | n + 1, l, c, h => by
   rcases bB l with rfl | ⟨q,x,rfl⟩
   . exact⟨yB.nil,fun h=>h⟩
   . rw[bD] at c h ⊢;obtain⟨d,g⟩:=Kl n q (by simpa using c) h.front;have i:x.kind=2->jH q:=fun b=>h q x [] rfl b;rw[C9];refine⟨?_,fun j=>Kk ?_⟩
     . by_cases e:x.kind=2∧tailD (lT q)=true
       . obtain⟨p,y,f,a⟩:=qY e.2;rw[f] at d ⊢;rw[ow p y x a e.1];exact d.front.snoc (fun _=>d p y [] rfl a)
       . rw[nk _ x (fun k=>by
          cases m:tailD (lT q)
          . rfl
          . exact absurd ⟨k,m⟩ e)]
         exact d.snoc (fun b=>g (i b))
     . obtain⟨y,a,b⟩:=j;rcases bq.1 a with a | a
       . exact Or.inl (g ⟨y,a,b⟩)
       . rw[bA.1 a] at b;exact Or.inr b
theorem yB.none_ {a b:List iH}(h:yB a)(c:∀e∈b,e.kind≠2):yB (a++b):=by
 induction b generalizing a with
 | nil=>rw[bU];exact h
 | cons e r d =>
   have:=d (h.snoc (e:=e) (fun k=>absurd k (c e (cu ..)))) (fun x f=>c x (cB _ f));rw[dO] at this;exact this
theorem yB.some_ {a b:List iH}(h:yB a)(c:jH a):yB (a++b):=by
 induction b generalizing a with
 | nil=>rw[bU];exact h
 | cons e r d =>
   have:=d (h.snoc (e:=e) (fun _=>c)) c.left;rw[dO] at this;exact this
theorem M5 (s:St)(t:av):(∀e∈(line s t).2,e.kind≠2)∧(0<(line s t).1.parts->0<s.parts∨jH (line s t).2):=by
 unfold line;split
 . split
   . exact⟨fun e a=>by rw[bA.1 a];show(4:Int)≠2;decide,fun h=>absurd h (by decide)⟩
   . split
     . exact⟨fun e a=>by rw[bA.1 a];show(4:Int)≠2;decide,fun h=>absurd h (Nat.lt_irrefl 0)⟩
     . exact⟨(fun e a=>by cases a),fun h=>Or.inl h⟩
 . split
   . exact⟨fun e a=>by rw[bA.1 a];show(4:Int)≠2;decide,fun h=>absurd h (Nat.lt_irrefl 0)⟩
   . split
     . exact⟨fun e a=>by rw[bA.1 a];show(4:Int)≠2;decide,fun h=>absurd h (by decide)⟩
     . rename_i p _ _;exact⟨fun e a=>by rw[bA.1 a];show(5:Int)≠2;decide,fun _=>Or.inr ⟨PX p,by simp,rfl⟩⟩
theorem VF {m:av}{s:St}(c:UInt8){o:List iH}(h:yB o)(a:0<s.parts->jH o):yB (o++(next m s c).2)∧(0<(next m s c).1.parts->jH (o++(next m s c).2)):=by
 unfold next;split
 . exact⟨by rw[bU];exact h,fun k=>(a k).left⟩
 . split
   . show yB (o++if 0<s.parts then _ else _)∧(0<s.parts->_);by_cases b:0<s.parts
     . rw[if_pos b];exact⟨h.some_ (a b),fun _=>(a b).left⟩
     . rw[if_neg b];exact⟨by rw[bU];exact h,fun k=>absurd k b⟩
   . split
     . split
       . exact⟨h.none_ (fun e d=>by rw[bA.1 d];show(4:Int)≠2;decide),fun k=>absurd k (Nat.lt_irrefl 0)⟩
       . split
         . obtain⟨f,g⟩:=M5 { s with ln:=Ln.next s.ln c } (Ln.text s.ln c);refine⟨h.none_ f,fun k=>?_⟩;rcases g k with k | ⟨x,i,j⟩
           . exact(a k).left
           . exact⟨x,dN _ i,j⟩
         . exact⟨by rw[bU];exact h,fun k=>(a k).left⟩
     . split
       . exact⟨h.none_ (fun e d=>by rw[bA.1 d];show(4:Int)≠2;decide),fun k=>absurd k (Nat.lt_irrefl 0)⟩
       . split
         . exact⟨h.none_ (fun e d=>by rw[bA.1 d];show(3:Int)≠2;decide),fun k=>absurd k (Nat.lt_irrefl 0)⟩
         . exact⟨by rw[bU];exact h,fun k=>(a k).left⟩
theorem Km (m:av):∀(l:av) (s:St) (o:List iH),yB o->(0<s.parts->jH o)->yB (o++outs m s l)
 | [],_,o,h,_=>by show yB (o++[]);rw[bU];exact h
 | c :: t, s, o, h, hp => by
   obtain⟨a,b⟩:=VF (m:=m) c h hp;have:=Km m t (next m s c).1 (o++(next m s c).2) a b;rw[dO] at this;exact this
theorem VG (m l:av):yB (lT (outs m start l)):=(Kl _ _ rfl (by have:=Km m l start [] yB.nil (fun h=>absurd h (by decide));simpa using this)).1
theorem yB.at_ {l:List iH}(h:yB l){k:Nat}(a:k<l.length)(b:l[k].kind=2):jH (l.take k):=h (l.take k) l[k] (l.drop (k+1)) (by rw[<-aD a,bV]) b
structure Pt where
 name:ay
 file:ay
 type:ay
 bytes:av
def laid (acc:List Pt)(e:iH):List Pt:=if e.kind=5 then acc++[⟨e.kK,e.ku,e.ptype,e.gT⟩] else if e.kind=2 then acc.dropLast++(acc.getLast?.map fun p=>{ p with bytes:=e.bytes }).toList else acc
def pR (l:List iH):List Pt:=l.foldl laid []
theorem Gc (l:List iH)(e:iH):pR (l++[e])=laid (pR l) e:=by unfold pR;rw[dY];rfl
theorem AZ (a:List Pt)(e:iH):a.length<=(laid a e).length∧(laid a e).length<=a.length+1:=by grind [laid]
theorem Gd:∀(n:Nat) (l:List iH),l.length=n->jH l->0<(pR l).length
 | 0,l,b,⟨x,c,_⟩=>by rw[dh b] at c;cases c
 | n + 1, l, b, h => by
   rcases bB l with rfl | ⟨q,x,rfl⟩
   . obtain⟨_,c,_⟩:=h;cases c
   . rw[bD] at b h ⊢;rw[Gc];obtain⟨y,a,d⟩:=h;rcases bq.1 a with a | a
     . have:=Gd n q (by simpa using b) ⟨y,a,d⟩;have:=(AZ (pR q) x).1;omega
     . rw[bA.1 a] at d;unfold laid;rw[if_pos d];simp
theorem A8 (l:List iH):(pR l).length<=l.length:=by
 have:∀(m:List iH) (o:List Pt),(m.foldl laid o).length<=o.length+m.length:=by
  intro m;induction m with
  | nil=>intro o;simp
  | cons e r a=>intro o;rw[dL];have b:=a (laid o e);have c:=(AZ o e).2;simp only[aW];omega
 have h:=this l [];simpa[pR] using h
end Go.Proofs.YthhklgjjnaeaoaaGreatDoor.Fm
namespace Go.Proofs.YthhklgjjnaeaoaaGreatDoor
def upd {α:Type}(f:Nat->α)(k:Nat)(a:α):Nat->α:=fun i=>if i=k then a else f i
theorem iI {b:Type}(f:Nat->b)(k:Nat)(a:b):upd f k a k=a:=if_pos rfl
theorem upd_ne {b:Type}(f:Nat->b){k i:Nat}(a:b)(h:i≠k):upd f k a i=f i:=if_neg h
theorem upd_same {a:Type}(f:Nat->a)(k:Nat):upd f k (f k)=f:=by
 funext i;unfold upd;split
 . next h=>rw[h]
 . rfl
theorem pX {c:Type}(f:Nat->c)(k:Nat)(a b:c):upd (upd f k a) k b=upd f k b:=by
 funext i;unfold upd;split <;> rfl
end Go.Proofs.YthhklgjjnaeaoaaGreatDoor
namespace Go.Proofs.YthhklgjjnaeaoaaGreatDoor.Gt
open Sr
def txt (l:av):ay:=⟨l.toArray⟩
def nu (l:List Rq.Fl):au:=l.map fun p=>(txt p.1,txt p.2)
abbrev yA:=Nat×au×av
def M6:av:=[98,111,117,110,100,97,114,121]
def Qa:av:=[109,117,108,116,105,112,97,114,116,47,102,111,114,109,45,100,97,116,97]
def aaf:ay:=⟨#[47,102,111,114,109]⟩
def AL:ay:=⟨#[80,79,83,84]⟩
def Dj:ay:=⟨#[80,65,84,67,72]⟩
def AR:av:=[102,105,108,101,110,97,109,101,32]
def yQ (t:ay):Bool:=decide (7<=t.size)&&decide (t.data.toList.take 7=Tu.kU.data.toList)
def ours (t:ay):Bool:=decide (t=Tu.rU)||yQ t
def bound (l:au):Option (av) :=
 if (Tu.one (Tu.vals Tu.Mx l)).2≠0 then U
 else match Pm.jL (Tu.one (Tu.vals Tu.Mx l)).1 with
  | .inl _=>U
  | .inr x=>if x.1≠Qa then U else Fm.get M6 x.2
def parts (b body:av):Option (List Fm.Pt) :=
 if Fm.kV b=true∧Fm.close (Fm.fold (Fm.mark b) Fm.start body)=0 then M (Fm.pR (lT (Fm.outs (Fm.mark b) Fm.start body))) else U
def room (ps:List Fm.Pt):Nat:=(ps.map fun p=>p.bytes.length+200).sum
def nP (s:Sh)(ids:List Int):Sh:=ids.foldl (fun s i=>(Sr.drop s i).1) s
def stat (c:Nat):Nat:=if c=4 then 413 else 507
def toldOf (id:Int)(f:ay):av:=Ch.iV 8 id.toNat++[32]++f.data.toList++[10]
def iU (p:Fm.Pt):ay:=txt (AR++p.file.data.toList)
def lands (s:Sh)(made:List Int)(told:av):List Fm.Pt->Sh×yA
 | []=>(Sr.sync s,(201,[],told))
 | p :: r =>
   if p.file.size=0 then lands s made told r
   else if (Sr.create s p.bytes.length (iU p)).2≠0 then (Sr.sync (nP s made),(stat (Sr.create s p.bytes.length (iU p)).2,[],[]))
   else if (Sr.append (Sr.create s p.bytes.length (iU p)).1 (s.h.last+1) 0 p.bytes).2≠0 then
    (Sr.sync (nP (Sr.drop (Sr.create s p.bytes.length (iU p)).1 (s.h.last+1)).1 made),(stat (Sr.append (Sr.create s p.bytes.length (iU p)).1 (s.h.last+1) 0 p.bytes).2,[],[]))
   else lands (Sr.append (Sr.create s p.bytes.length (iU p)).1 (s.h.last+1) 0 p.bytes).1 (made++[s.h.last+1]) (told++toldOf (s.h.last+1) p.file) r
def land (s:Sh)(l:au)(body:av):Sh×yA:=match bound l with
 | none=>(s,(415,[],[]))
 | some b => match parts b body with
   | none=>(s,(400,[],[]))
   | some ps=>if 100000<s.log.length+room ps then (s,(507,[],[])) else lands s [] [] ps
abbrev ado:=Sh->ay->ay->au->av->Sh×Tu.yA
section
variable (T:ado)
def answer (s:Sh)(m t:ay)(l:au)(body:av):Sh×yA :=
 if ours t=true then ((T s m t l body).1,((T s m t l body).2.1,(T s m t l body).2.2,[]))
 else if t≠aaf then (s,(404,[],[]))
 else if m≠AL then (s,(405,[],[]))
 else land s l body
def over (s:Sh)(h:Rq.Hd)(body:av):Sh×yA:=answer T s (txt h.method) (txt h.target) (nu h.fields) body
def textOf (r:yA):av:=(Rp.text (r.1:Int) r.2.1 (Tu.vals ⟨#[99,111,110,116,101,110,116,45,108,101,110,103,116,104]⟩ r.2.1).length r.2.2).1
def qZ (c:Nat):yA:=(if c=4 then 413 else 400,[],[])
/-! ### events -/
structure Gs where
 s:Sh
 hd:Rq.Hd
 body:av
 out:av
def ev (g:Gs):Rq.Ev->Gs
 | .head h=>{ g with hd:=h }
 | .body b=>{ g with body:=g.body++b }
 | .fin=>{ s:=(over T g.s g.hd g.body).1,hd:=Rq.hd0,body:=[],out:=g.out++textOf (over T g.s g.hd g.body).2 }
 | .fail c=>{ s:=g.s,hd:=Rq.hd0,body:=[],out:=g.out++textOf (qZ c) }
def evs (g:Gs)(l:List Rq.Ev):Gs:=l.foldl (ev T) g
theorem vE (g:Gs)(e:Rq.Ev)(l:List Rq.Ev):evs T g (e::l)=evs T (ev T g e) l:=rfl
theorem M7 (g:Gs)(a b:List Rq.Ev):evs T g (a++b)=evs T (evs T g a) b:=by unfold evs;rw[dY]
theorem abj (g:Gs)(a b:av):ev T (ev T g (.body a)) (.body b)=ev T g (.body (a++b)):=by grind [ev]
theorem vF:∀(l:List Rq.Ev) (g:Gs),evs T g (Rq.join l)=evs T g l
 | [],_=>rfl
 | .head h::r,g=>vF r (ev T g (.head h))
 | .fin::r,g=>vF r (ev T g .fin)
 | .fail c::r,g=>vF r (ev T g (.fail c))
 | .body a :: r, g => by
   have d:=vF r (ev T g (.body a));rw[vE T g (.body a) r,<-d];show evs T g (match Rq.join r with
    | .body b::q=>.body (a++b)::q
    | q=>.body a::q)=_
   cases f:Rq.join r with
   | nil=>rfl
   | cons e q =>
     cases e with
     | body b=>rw[vE,vE,abj]
     | head _=>rfl
     | fin=>rfl
     | fail _=>rfl
theorem abk (g:Gs)(o:av)(e:Rq.Ev):ev T { g with out:=o++g.out } e={ ev T g e with out:=o++(ev T g e).out }:=by
 cases e with
 | head h=>rfl
 | body b=>rfl
 | fin=>simp only[ev,dO]
 | fail c=>simp only[ev,dO]
/-! ### a connection -/
structure Cn where
 rq:Rq.St
 hd:Rq.Hd
 body:av
def yR:Cn:=⟨Rq.start,Rq.hd0,[]⟩
def at_ (s:Sh)(c:Cn):Gs:=⟨s,c.hd,c.body,[]⟩
def VH (s:Sh)(c:Cn)(b:av):Gs:=evs T (at_ s c) (Rq.outs c.rq b)
def feed (s:Sh)(c:Cn)(b:av):Sh×Cn×av:=((VH T s c b).s,⟨Rq.fold c.rq b,(VH T s c b).hd,(VH T s c b).body⟩,(VH T s c b).out)
def gone (s:Sh)(c:Cn):Sh:=if txt c.hd.method=Dj∧yQ (txt c.hd.target)=true∧c.body≠[] then (T s (txt c.hd.method) (txt c.hd.target) (nu c.hd.fields) c.body).1 else s
/-! ### what holds of it -/
theorem tZ:∀(ids:List Int) {s:Sh},Sr.Ok s->Sr.Ok (nP s ids)
 | [],_,h=>h
 | i::r,_,h=>tZ r (h.drop i)
theorem Dk:∀(b:List Fm.Pt) {s:Sh} (made:List Int) (a:av),Sr.Ok s->Sr.Ok (lands s made a b).1
 | [],_,_,_,h=>h.sync
 | p :: r, s, made, a, h => by
   unfold lands;split
   . exact Dk r made a h
   . split
     . exact(tZ made h).sync
     . split
       . exact(tZ made ((h.create _ _).drop _)).sync
       . exact Dk r _ _ ((h.create _ _).append _ _ _)
theorem Y1 {s:Sh}(h:Sr.Ok s)(l:au)(body:av):Sr.Ok (land s l body).1:=by grind [land,Dk]
theorem Ry (a:∀{s:Sh},Sr.Ok s->∀m t l body,Sr.Ok (T s m t l body).1){s:Sh}(h:Sr.Ok s)(m t:ay)(l:au)(body:av):Sr.Ok (answer T s m t l body).1:=by grind [answer,Y1]
theorem VI (a:∀{s:Sh},Sr.Ok s->∀m t l body,Sr.Ok (T s m t l body).1){g:Gs}(h:Sr.Ok g.s)(e:Rq.Ev):Sr.Ok (ev T g e).s:=by
 cases e with
 | head _=>exact h
 | body _=>exact h
 | fin=>exact Ry T a h _ _ _ _
 | fail _=>exact h
theorem VJ (a:∀{s:Sh},Sr.Ok s->∀m t l body,Sr.Ok (T s m t l body).1):∀(l:List Rq.Ev) {g:Gs},Sr.Ok g.s->Sr.Ok (evs T g l).s
 | [],_,h=>h
 | e::r,_,h=>VJ a r (VI T a h e)
theorem Y2 (a:∀{s:Sh},Sr.Ok s->∀m t l body,Sr.Ok (T s m t l body).1){s:Sh}(h:Sr.Ok s)(c:Cn)(b:av):Sr.Ok (feed T s c b).1:=VJ T a (g:=at_ s c) _ h
theorem Y3 (a:∀{s:Sh},Sr.Ok s->∀m t l body,Sr.Ok (T s m t l body).1){s:Sh}(h:Sr.Ok s)(c:Cn):Sr.Ok (gone T s c):=by
 unfold gone;split
 . exact a h _ _ _ _
 . exact h
end
end Go.Proofs.YthhklgjjnaeaoaaGreatDoor.Gt
namespace Go.Proofs.YthhklgjjnaeaoaaGreatDoor.Gt
open Sr
section
end
structure Small (r:yA):Prop where
 few:r.2.1.length<=5
 fields:∀p∈r.2.1,p.1.size<=2000∧p.2.size<=2000
 body:r.2.2.length<=2000
theorem Small.bare (st:Nat):Small (st,[],[]):=⟨aA _,fun p a=>by simp at a,aA _⟩
def FS (r:Tu.yA):Prop:=r.2.length<=5∧∀p∈r.2,p.1.size<=2000∧p.2.size<=2000
theorem yS (n:Nat):(Tu.dec n).size<=9:=by
 unfold Tu.dec;show(Ch.iV 8 n).toArray.size<=_;rw[bK];exact(Ch.jm 8 n).1
theorem Cm (st:Nat)(l:au)(b:l.length<=4)(h:∀p∈l,p.1.size<=2000∧p.2.size<=2000):FS (Tu.said st l):=by
 refine⟨by show l.length+1<=5;omega,fun p a=>?_⟩;rcases dZ.1 a with rfl | a
 . exact⟨by decide,by decide⟩
 . exact h p a
theorem mG (st:Nat):FS (Tu.said st []):=Cm st [] (aA _) (fun p a=>by cases a)
theorem M9 (st:Nat)(a b:ay)(ha:a.size<=2000)(c:b.size<=2000):FS (Tu.said st [(a,b)]):=by grind [FS,Tu.said,Cm]
theorem Y5 (s:Sh)(m:ay)(l:au):FS (Tu.post s m l).2:=by
 unfold Tu.post;repeat' split
 all_goals first
  | exact mG _
  | exact M9 _ _ _ (by decide) (by rw[bL];have:=yS (s.h.last+1).toNat;have:Tu.kU.size=7:=rfl;omega)
theorem VN (s:Sh)(u:Sp.Up)(l:au)(body:av):FS (Tu.patch s u l body).2:=by
 unfold Tu.patch;split
 . exact mG _
 . split
   . exact mG _
   . split
     . exact mG _
     . split
       . exact mG _
       . split
         . exact mG _
         . split
           . exact mG _
           . split
             . exact mG _
             . split
               . exact mG _
               . exact M9 _ _ _ (by decide) (by have:=yS (u.bytes.length+body.length);omega)
theorem Y6 (u:Sp.Up)(h:u.note.size<=100):FS (Tu.head u):=by
 unfold Tu.head;refine Cm 200 _ ?_ (fun p a=>?_)
 . simp only[aW];split <;> simp
 . rcases dZ.1 a with rfl | a
   . exact⟨show Tu.uJ.size<=2000 by decide,by have:=yS u.bytes.length;show(Tu.dec u.bytes.length).size<=_;omega⟩
   . rcases dZ.1 a with rfl | a
     . split
       . exact⟨by decide,by decide⟩
       . exact⟨show Tu.ET.size<=2000 by decide,by have:=yS u.size.toNat;show(Tu.dec u.size.toNat).size<=_;omega⟩
     . rcases dZ.1 a with rfl | a
       . exact⟨by decide,by decide⟩
       . split at a
         . cases a
         . rw[bA.1 a];exact⟨show Tu.FX.size<=2000 by decide,by show u.note.size<=_;omega⟩
theorem VO {s:Sh}(ok:Sr.Ok s)(m t:ay)(l:au)(body:av):FS (Tu.iQ s m t l body).2:=by
 unfold Tu.iQ;split
 . exact Cm _ _ (by decide) (by decide)
 . split
   . exact mG _
   . split
     . exact M9 _ _ _ (by decide) (by decide)
     . split
       . exact Y5 s m l
       . split
         . exact mG _
         . rename_i u a;unfold Tu.M8;split
           . exact Y6 u (ok.h.all u (Tu.CX a).1).note
           . split
             . exact mG _
             . split
               . exact VN s u l body
               . exact mG _
theorem Dl {s:Sh}{z:Int}{m:ay}(h:(Sr.create s z m).2=0):(Sr.create s z m).1.h.l.length=s.h.l.length+1∧m.size<=100:=by
 unfold Sr.create Sr.write at h ⊢;split
 . rename_i a;rw[if_pos a] at h;exact absurd h a
 . rename_i a;rw[if_neg a] at h;split
   . rename_i c;rw[if_pos c] at h;exact absurd h (by simp)
   . rename_i c;rw[if_neg c] at h;split
     . rename_i b;rw[if_pos b] at h;exact absurd h (by simp)
     . skip;show(Sr.made s.h z m).1.l.length=_∧_;unfold Sr.made Sp.create at a ⊢;split
       . rename_i b;rw[if_pos b] at a;exact absurd (by simp) a
       . rename_i b;rw[if_neg b] at a;split
         . rename_i d;rw[if_pos d] at a;exact absurd (by simp) a
         . rename_i d;rw[if_neg d] at a;split
           . rename_i e;rw[if_pos e] at a;exact absurd (by simp) a
           . rename_i e;rw[if_neg e] at a;split
             . rename_i f;rw[if_pos f] at a;exact absurd (by simp) a
             . exact⟨by simp,by omega⟩
theorem Kn (s:Sh)(c a:Int)(b:av):(Sr.append s c a b).1.h.l.length=s.h.l.length:=by
 have d:(Sp.append s.h c a b).1.l.length=s.h.l.length:=by
  unfold Sp.append Sp.kH;split
  . rfl
  . split
    . rfl
    . simp only[];repeat' split
      all_goals first
       | rfl
       | (show(List.set _ _ _).length=_;rw[aP])
 unfold Sr.append Sr.write;repeat' split
 all_goals first
  | rfl
  | exact d
theorem Dm (a:Int)(f:ay):(toldOf a f).length<=11+f.size:=by
 unfold toldOf;have:=(Ch.jm 8 a.toNat).1;have b:f.data.toList.length=f.size:=by rw[aO];rfl
 simp only[aV,aW,bY];omega
theorem vG:∀(b:List Fm.Pt) {s:Sh} (made:List Int) (a:av),Sr.Ok s->a.length<=120*s.h.l.length->Small (lands s made a b).2
 | [],s,_,a,ok,h=>⟨aA _,(fun p c=>by cases c),(by have:=ok.h.few;show a.length<=_;omega)⟩
 | p :: r, s, made, a, ok, h => by
   unfold lands;split
   . exact vG r made a ok h
   . split
     . exact Small.bare _
     . rename_i d;split
       . exact Small.bare _
       . have f:(Sr.create s p.bytes.length (iU p)).2=0:=by
          rcases Nat.eq_zero_or_pos (Sr.create s p.bytes.length (iU p)).2 with e | e
          . exact e
          . exact absurd (by omega) d
         obtain⟨g,i⟩:=Dl f;refine vG r _ _ ((ok.create _ _).append _ _ _) ?_;rw[Kn,g,aV];have j:(iU p).size=9+p.file.size:=by
          show(AR++p.file.data.toList).toArray.size=_;rw[bK,aV,aO];rfl
         have:=Dm (s.h.last+1) p.file;omega
theorem Na {s:Sh}(ok:Sr.Ok s)(l:au)(body:av):Small (land s l body).2:=by grind [land,Small.bare,vG]
theorem yT {s:Sh}(ok:Sr.Ok s)(m t:ay)(l:au)(body:av):Small (answer Tu.iQ s m t l body).2:=by
 unfold answer;split
 . exact⟨(VO ok m t l body).1,(VO ok m t l body).2,aA _⟩
 . split
   . exact Small.bare _
   . split
     . exact Small.bare _
     . exact Na ok l body
/-! ### texts -/
theorem VP (p:ay×ay):(Rp.jB p).length<=202:=by
 unfold Rp.jB;rw[aV];have:(Fd.text p.1.data.toList p.2.data.toList).1.length<=200:=by
  unfold Fd.text;repeat' split
  all_goals first
   | exact aA _
   | (simp only[aV,aW,bY];omega)
 simp only[aW,bY];omega
theorem Gf:∀l:au,(l.flatMap Rp.jB).length<=202*l.length
 | []=>aA _
 | p :: r => by
   rw[aU,aV,aW];have:=VP p;have:=Gf r;omega
theorem VQ (st:Int)(l:au)(a:Nat)(body:av):(Rp.text st l a body).1.length<=4000+body.length:=by
 unfold Rp.text;split
 . exact aA _
 . split
   . exact aA _
   . split
     . exact aA _
     . split
       . exact aA _
       . have b:=Gf l;have c:=Rp.JV st;have d:=(Ch.jm 8 st.toNat).1;have e:=(Ch.jm 8 body.length).1;have f:Rp.h11.length=9:=rfl;have g:Rp.cl.length=16:=rfl;simp only[Rp.first,aV,aW,bY];omega
theorem Dn {r:yA}(h:Small r):(textOf r).length<=6000:=by
 unfold textOf;have:=VQ (r.1:Int) r.2.1 (Tu.vals ⟨#[99,111,110,116,101,110,116,45,108,101,110,103,116,104]⟩ r.2.1).length r.2.2;have:=h.body;omega
theorem xC (c:Nat):Small (qZ c):=Small.bare _
/-! ### a connection -/
structure BP (c:Cn):Prop where
 rq:Rq.Good c.rq
 hd:Rq.oU c.hd
theorem Dp:Rq.oU Rq.hd0:=⟨aA _,aA _,aA _,aA _,fun f a=>by cases a⟩
theorem BP.new:BP yR:=⟨Rq.Good.start,Dp⟩
section
variable (T:ado)
theorem aag {g:Gs}{e:Rq.Ev}(h:Rq.oU g.hd)(a:e.tX):Rq.oU (ev T g e).hd:=by
 cases e with
 | head x=>exact a
 | body b=>exact h
 | fin=>exact Dp
 | fail c=>exact Dp
theorem VR:∀(l:List Rq.Ev) {g:Gs},Rq.oU g.hd->(∀e∈l,e.tX)->Rq.oU (evs T g l).hd
 | [],_,h,_=>h
 | e::r,_,h,he=>VR r (aag T h (he e (by simp))) (fun x a=>he x (by simp[a]))
theorem Dq:∀(l:List Rq.Ev) (g:Gs),(evs T g l).body.length<=g.body.length+Rq.iO l
 | [],_=>aM _
 | e :: r, g => by
   have h:=Dq r (ev T g e);rw[vE];cases e with
   | head x=>exact h
   | body b =>
     have a:(ev T g (.body b)).body.length=g.body.length+b.length:=aV;show _<=_+(b.length+Rq.iO r);omega
   | fin =>
     have a:(ev T g .fin).body.length=0:=rfl;show _<=_+Rq.iO r;omega
   | fail c =>
     have a:(ev T g (.fail c)).body.length=0:=rfl;show _<=_+Rq.iO r;omega
theorem Y7 {c:Cn}(h:BP c)(s:Sh)(b:av):BP (feed T s c b).2.1:=⟨h.rq.fold b,VR T _ (g:=at_ s c) h.hd (Rq.qo b h.rq)⟩
theorem Rz (s:Sh)(c:Cn)(b:av):(feed T s c b).2.1.body.length<=c.body.length+b.length:=by
 have a:=Dq T (Rq.outs c.rq b) (at_ s c);have e:=(Rq.oV b c.rq).2.1;show(evs T (at_ s c) (Rq.outs c.rq b)).body.length<=_;have d:(at_ s c).body=c.body:=rfl;rw[d] at a;omega
end
theorem Nb {g:Gs}(ok:Sr.Ok g.s)(e:Rq.Ev):(ev Tu.iQ g e).out.length<=g.out.length+6000:=by
 cases e with
 | head x=>exact dG _ _
 | body b=>exact dG _ _
 | fin =>
   show(g.out++textOf _).length<=_;rw[aV];have:=Dn (yT ok (txt g.hd.method) (txt g.hd.target) (nu g.hd.fields) g.body);unfold over;omega
 | fail c =>
   show(g.out++textOf _).length<=_;rw[aV];have:=Dn (xC c);omega
theorem Ba:∀(l:List Rq.Ev) {g:Gs},Sr.Ok g.s->(evs Tu.iQ g l).out.length<=g.out.length+6000*l.length
 | [],_,_=>by simp[evs]
 | e :: r, g, ok => by
   have a:=Nb ok e;have c:=Ba r (VI Tu.iQ (fun h m t l b=>Tu.Ii h m t l b) ok e);rw[vE,aW];omega
end Go.Proofs.YthhklgjjnaeaoaaGreatDoor.Gt
namespace Go.Proofs.YthhklgjjnaeaoaaGreatDoor.Pt
open Sr
structure aan where
 kind:Int
 conn:Int
 n:Int
 b:av
structure P where
 s:Sh
 c:Nat->Gt.Cn
 tr:List Int
def new:P:=⟨Sr.new,fun _=>Gt.yR,[]⟩
structure O where
 code:Nat
 out:av
 up:av
def VW:ay:=⟨#[47,116,97,107,101,47]⟩
def Dr:ay:=⟨#[72,111,115,116]⟩
def vIn:ay:=⟨#[105,110,108,97,110,100]⟩
def xu (m:ay):au:=(Dr,vIn)::if m.size=0 then [] else [(Tu.FX,m)]
def target (id:Int):ay:=VW++Tu.dec id.toNat
def head (u:Sp.Up):Rq.Hd:=⟨Tu.AL.data.toList,(target u.id).data.toList,0,(xu u.note).map fun p=>(p.1.data.toList,p.2.data.toList),0⟩
def onward (u:Sp.Up):av:=(Rq.text (head u) u.bytes).1
def get (s:Sp.St)(id:Int):Option Sp.Up:=match Sp.place s.l id with
 | none=>U
 | some i=>s.l[i]?
def Il (s:Sp.St)(id:Int):av:=match get s id with
 | none=>[]
 | some u=>onward u
def isC (k:Int):Prop:=0<=k∧k<4
instance (k:Int):Decidable (isC k):=by unfold isC;exact inferInstance
def vI (p:P)(k:Int)(b:av):P×O :=
 if isC k then (⟨(Gt.feed Tu.iQ p.s (p.c k.toNat) b).1,upd p.c k.toNat (Gt.feed Tu.iQ p.s (p.c k.toNat) b).2.1,p.tr⟩,⟨if (p.c k.toNat).rq.ph=4 then 18 else 0,(Gt.feed Tu.iQ p.s (p.c k.toNat) b).2.2,[]⟩)
 else (p,⟨1,[],[]⟩)
def stepG (p:P)(k:Int):P×O :=
 if isC k then (⟨Gt.gone Tu.iQ p.s (p.c k.toNat),upd p.c k.toNat Gt.yR,p.tr⟩,⟨0,[],[]⟩) else (p,⟨1,[],[]⟩)
def Gg (p:P)(id:Int):P×O :=
 if (Sr.begins p.s id).2≠0 then (p,⟨(Sr.begins p.s id).2,[],[]⟩)
 else (⟨Sr.sync (Sr.begins p.s id).1,p.c,p.tr++[id]⟩,⟨0,[],Il (Sr.begins p.s id).1.h id⟩)
def stepT (p:P)(id:Int):P×O :=
 if (Sr.ends p.s id).2≠0 then (p,⟨(Sr.ends p.s id).2,[],[]⟩) else (⟨Sr.sync (Sr.ends p.s id).1,p.c,p.tr⟩,⟨0,[],[]⟩)
def Qc (p:P)(keep:Int):P×O:=(⟨Sr.crash p.s keep,fun _=>Gt.yR,p.tr⟩,⟨0,[],[]⟩)
def step (p:P)(x:aan):P×O :=
 if x.kind=1 then vI p x.conn x.b else if x.kind=2 then stepG p x.conn else if x.kind=3 then Gg p x.n else if x.kind=4 then stepT p x.n else if x.kind=5 then Qc p x.n else (p,⟨11,[],[]⟩)
def run (p:P)(l:List aan):P:=l.foldl (fun p x=>(step p x).1) p
theorem Dt (p:P)(l:List aan)(i:Nat)(h:i<l.length):run p (l.take (i+1))=(step (run p (l.take i)) l[i]).1:=by
 unfold run;rw[bM h,dY];rfl
def iO (l:List aan):Nat:=(l.map fun x=>x.b.length).sum
theorem Im (l:List aan)(i:Nat)(h:i<l.length):iO (l.take i)+l[i].b.length=iO (l.take (i+1)):=by
 unfold iO;rw[bM h,bE,List.sum_append];simp
theorem Y8 (l:List aan)(i:Nat):iO (l.take i)<=iO l:=by
 conv=>rhs;rw[<-bV i l]
 unfold iO;rw[bE,List.sum_append];omega
/-! ### all that was done is made sure of -/
def Log (s:Sh):Prop:=∃es m,mM s es m
theorem Log.sync {s:Sh}(h:Log s):Tu.qV (Sr.sync s):=h.elim fun _ h=>h.elim fun _ h=>Tu.wO h
theorem Log.of {s:Sh}(h:Tu.qV s):Log s:=h.elim fun a h=>⟨a,a.length,h⟩
theorem Log.any {s:Sh}(h:Log s)(x:Sr.aan):Log (Sr.step s x).1:=h.elim fun _ h=>h.elim fun _ h=>h.any x
theorem Log.drop {s:Sh}(h:Log s)(a:Int):Log (Sr.drop s a).1:=h.elim fun _ h=>h.elim fun m h=>(Tu.RA h a).elim fun b h=>⟨b,m,h⟩
theorem Log.create {s:Sh}(h:Log s)(z:Int)(t:ay):Log (Sr.create s z t).1:=h.elim fun _ h=>h.elim fun m h=>(Tu.Bb h z t).elim fun a h=>⟨a,m,h⟩
theorem Log.append {s:Sh}(h:Log s)(c a:Int)(b:av):Log (Sr.append s c a b).1:=h.elim fun _ h=>h.elim fun m h=>(Tu.vH h c a b).elim fun d h=>⟨d,m,h⟩
theorem vJ:∀(ids:List Int) {s:Sh},Log s->Log (Gt.nP s ids)
 | [],_,h=>h
 | i::r,_,h=>vJ r (h.drop i)
theorem xS:∀(b:List Fm.Pt) {s:Sh} (made:List Int) (a:av),Log s->Tu.qV (Gt.lands s made a b).1
 | [],_,_,_,h=>h.sync
 | p :: r, s, made, a, h => by
   unfold Gt.lands;split
   . exact xS r made a h
   . split
     . exact(vJ made h).sync
     . split
       . exact(vJ made ((h.create _ _).drop _)).sync
       . exact xS r _ _ ((h.create _ _).append _ _ _)
theorem Gh {s:Sh}(h:Tu.qV s)(m t:ay)(l:au)(body:av):Tu.qV (Tu.iQ s m t l body).1:=by
 unfold Tu.iQ Tu.M8;repeat' split
 all_goals first
  | exact h
  | exact Tu.RB h m l
  | exact((Log.of h).drop _).sync
  | exact Tu.Nf h _ l body
theorem Kr {s:Sh}(h:Tu.qV s)(m t:ay)(l:au)(body:av):Tu.qV (Gt.answer Tu.iQ s m t l body).1:=by
 unfold Gt.answer Gt.land;repeat' split
 all_goals first
  | exact h
  | exact Gh h m t l body
  | exact xS _ _ _ (Log.of h)
theorem Kt:∀(l:List Rq.Ev) {g:Gt.Gs},Tu.qV g.s->Tu.qV (Gt.evs Tu.iQ g l).s
 | [],_,h=>h
 | e :: r, g, h => Kt r (g := Gt.ev Tu.iQ g e) (by
   cases e with
   | fin=>exact Kr h _ _ _ _
   | head _=>exact h
   | body _=>exact h
   | fail _=>exact h)
theorem RD {s:Sh}(h:Tu.qV s)(c:Gt.Cn):Tu.qV (Gt.gone Tu.iQ s c):=by
 unfold Gt.gone;split
 . exact Gh h _ _ _ _
 . exact h
theorem Nh {s:Sh}(h:Log s)(a:Int):Log (Sr.begins s a).1:=h.any ⟨4,a,0,⟨#[]⟩⟩
theorem VX {s:Sh}(h:Log s)(a:Int):Log (Sr.ends s a).1:=h.any ⟨5,a,0,⟨#[]⟩⟩
theorem Du {s:Sh}(h:Tu.qV s)(k:Int):Sr.crash s k=s:=h.elim fun _ h=>Sr.Kq h k
/-! ### what always holds; n: so many bytes came in -/
structure Ok (p:P)(n:Nat):Prop where
 s:Sr.Ok p.s
 sure:Tu.qV p.s
 c:∀k,Gt.BP (p.c k)
 few:∀k,(p.c k).body.length<=n
theorem Ok.new:Ok new 0:=⟨Sr.Ok.new,Tu.qV.new,fun _=>Gt.BP.new,fun _=>aM _⟩
theorem Ok.more {p:P}{n m:Nat}(h:Ok p n)(a:n<=m):Ok p m:=⟨h.s,h.sure,h.c,fun k=>dB (h.few k) a⟩
theorem Co {b:Type}{aai:b->Prop}{f:Nat->b}{a:b}(k:Nat)(c:∀i,aai (f i))(ha:aai a):∀i,aai (upd f k a i):=fun i=>by
 unfold upd;split
 . exact ha
 . exact c i
theorem VY:∀{s:Sr.Sh},Sr.Ok s->∀m t l body,Sr.Ok (Tu.iQ s m t l body).1:=fun h m t l b=>Tu.Ii h m t l b
theorem Ok.step {p:P}{n:Nat}(h:Ok p n)(x:aan):Ok (step p x).1 (n+x.b.length):=by
 have a:=h.more (dG n x.b.length);unfold Pt.step;split
 . unfold vI;split
   . refine⟨Gt.Y2 Tu.iQ VY h.s _ _,Kt _ (g:=Gt.at_ p.s _) h.sure,Co _ h.c (Gt.Y7 Tu.iQ (h.c _) _ _),Co (aai:=fun c:Gt.Cn=>c.body.length<=n+x.b.length) _ a.few ?_⟩;have:=Gt.Rz Tu.iQ p.s (p.c x.conn.toNat) x.b;have:=h.few x.conn.toNat;omega
   . exact a
 . split
   . unfold stepG;split
     . exact⟨Gt.Y3 Tu.iQ VY h.s _,RD h.sure _,Co _ h.c Gt.BP.new,Co (aai:=fun c:Gt.Cn=>c.body.length<=n+x.b.length) _ a.few (aA _)⟩
     . exact a
   . split
     . unfold Gg;split
       . exact a
       . exact⟨(h.s.begins _).sync,(Nh (Log.of h.sure) _).sync,h.c,a.few⟩
     . split
       . unfold stepT;split
         . exact a
         . exact⟨(h.s.ends _).sync,(VX (Log.of h.sure) _).sync,h.c,a.few⟩
       . split
         . refine⟨h.s.crash _,?_,fun _=>Gt.BP.new,fun _=>aA _⟩;show Tu.qV (Sr.crash p.s x.n);rw[Du h.sure];exact h.sure
         . exact a
theorem Ok.run (l:List aan):∀i,i<=l.length->Ok (Pt.run Pt.new (l.take i)) (iO (l.take i))
 | 0,_=>Ok.new
 | i + 1, h => by
   rw[Dt Pt.new l i (by omega),<-Im l i (by omega)];exact(Ok.run l i (by omega)).step l[i]
end Go.Proofs.YthhklgjjnaeaoaaGreatDoor.Pt
namespace Go.Proofs.YthhklgjjnaeaoaaGreatDoor.Fm
theorem tail_at {l:av}{p:Nat}(n:p<=l.length)(f:∀j (b:j<l.length),p<=j->stroke l[j]=F)(g:p=0∨∃h:p-1<l.length,0<p∧stroke l[p-1]=true):tail l=l.drop p:=by
 have e:l.reverse=(l.drop p).reverse++(l.take p).reverse:=by rw[<-List.reverse_append,bV]
 have ha:∀c∈(l.drop p).reverse,(!stroke c)=true:=by
  intro c d;rw[List.mem_reverse] at d;obtain⟨j,b,rfl⟩:=List.getElem_of_mem d;rw[bT] at b;rw[List.getElem_drop,f (p+j) (by omega) (by omega)];rfl
 have i:(l.take p).reverse.takeWhile (fun c=>!stroke c)=[]:=by
  rcases g with rfl | ⟨h,o,k⟩
  . rfl
  . obtain⟨q,rfl⟩:∃q,p=q+1:=⟨p-1,by omega⟩;have m:q<l.length:=by simpa using h
    have a:stroke l[q]=true:=by simpa using k
    rw[bM m,List.reverse_append];show(l[q]::(l.take q).reverse).takeWhile _=[];rw[dV,a];rfl
 unfold tail;rw[e,List.takeWhile_append_of_pos ha,i,bU,List.reverse_reverse]
theorem NZ {c:UInt8}(h:dirty c=F):yM c=c:=by unfold yM;rw[h];rfl
def nA (k:Nat)(l:av):av:=(l.take k).map yM++l.drop k
theorem rX (k:Nat)(l:av):(nA k l).length=l.length:=by grind [nA]
theorem KY (l:av):nA 0 l=l:=rfl
theorem N7 (l:av):nA l.length l=l.map yM:=by unfold nA;rw[bN,List.drop_length,bU]
theorem SA {k:Nat}{l:av}(h:k<l.length):(nA k l)[k]'(by rw[rX];exact h)=l[k]:=by grind [nA]
theorem KZ {k:Nat}{l:av}(h:k<l.length):nA (k+1) l=(nA k l).set k (yM l[k]):=by
 unfold nA;rw[bM h,bE,aD h,bG _ _ (by rw[aF,bW];omega)];rw[aF,bW,dP (Nat.le_of_lt h),Nat.sub_self];simp;rw[aD h];rfl
theorem K3 {k:Nat}{l:av}(h:k<l.length)(hd:dirty l[k]=F):nA (k+1) l=nA k l:=by
 unfold nA;rw[bM h,bE,aD h];simp[NZ hd]
theorem K5 {c:UInt8}{t:av}(h:c≠37):dec (c::t)=(dec t).map (c::·):=by rw[dec.eq_def];simp only[];rw[if_neg h]
theorem Qy {a b:UInt8}{r:av}(ha:0<=Ch.hex a.toNat)(c:0<=Ch.hex b.toNat):dec (37::a::b::r)=(dec r).map ((16*Ch.hex a.toNat+Ch.hex b.toNat).toNat.toUInt8::·):=by grind [Ch.hex,dec]
theorem Qz {a b:UInt8}{r:av}(h:¬(0<=Ch.hex a.toNat∧0<=Ch.hex b.toNat)):dec (37::a::b::r)=U:=by
 rw[dec.eq_def];simp only[];rw[if_pos trivial,if_neg h]
theorem Ak {t:av}(h:t.length<2):dec (37::t)=U:=by
 match t,h with
 | [],_=>rw[dec.eq_def];simp only[];rw[if_pos trivial]
 | [_],_=>rw[dec.eq_def];simp only[];rw[if_pos trivial]
 | _::_::_,h=>simp at h;omega
def decs (bs r:av):Option (av):=(dec r).map (bs++·)
theorem WI (bs:av):decs bs []=M bs:=by unfold decs;rw[dec];simp
theorem SC {bs:av}{c:UInt8}{t:av}(h:c≠37):decs bs (c::t)=decs (bs++[c]) t:=by
 unfold decs;rw[K5 h,Option.map_map];congr 1;funext x;simp
theorem WJ {bs:av}{a b:UInt8}{r:av}(ha:0<=Ch.hex a.toNat)(c:0<=Ch.hex b.toNat):decs bs (37::a::b::r)=decs (bs++[(16*Ch.hex a.toNat+Ch.hex b.toNat).toNat.toUInt8]) r:=by
 unfold decs;rw[Qy ha c,Option.map_map];congr 1;funext x;simp
theorem WK {bs:av}{a b:UInt8}{r:av}(h:¬(0<=Ch.hex a.toNat∧0<=Ch.hex b.toNat)):decs bs (37::a::b::r)=U:=by unfold decs;rw[Qz h];rfl
theorem N9 {bs t:av}(h:t.length<2):decs bs (37::t)=U:=by unfold decs;rw[Ak h];rfl
theorem Oa (r:av):decs [] r=dec r:=by unfold decs;simp
theorem Oc (a b:UInt8):Ch.number 16 6 [a,b]=if 0<=Ch.hex a.toNat∧0<=Ch.hex b.toNat then (16*Ch.hex a.toNat+Ch.hex b.toNat,true) else (0,F):=by
 have c:¬(6:Int)<(([a,b]:av).length:Int):=by simp
 by_cases h:0<=Ch.hex a.toNat∧0<=Ch.hex b.toNat
 . rw[if_pos h,Ch.xM 16 6 _ (by simp) c (by rw[dK,dK,Ch.PI,Ch.PI,aI h.1,aI h.2];rfl)];unfold Ch.numOf;simp only[dL,List.foldl_nil];rw[show(0:Int)*16+Ch.hex a.toNat=Ch.hex a.toNat by omega,show Ch.hex a.toNat*16+Ch.hex b.toNat=16*Ch.hex a.toNat+Ch.hex b.toNat by omega]
 . rw[if_neg h,Ch.zS 16 6 _ (by
    rw[dK,dK,Ch.PI,Ch.PI];simp only[List.all_nil,Bool.and_true];rw[dw,bO,bO];rcases Decidable.not_and_iff_not_or_not.1 h with h | h
    . exact Or.inl h
    . exact Or.inr h)]
theorem WL {a b:UInt8}(ha:0<=Ch.hex a.toNat)(c:0<=Ch.hex b.toNat):((16*Ch.hex a.toNat+Ch.hex b.toNat).toNat.toUInt8.toNat:Int)=16*Ch.hex a.toNat+Ch.hex b.toNat∧16*Ch.hex a.toNat+Ch.hex b.toNat<=255:=by
 have d:=(Ch.uV a).2;have f:=(Ch.uV b).2;generalize Ch.hex (a.toNat:Int)=x at *;generalize Ch.hex (b.toNat:Int)=y at *;refine⟨?_,by omega⟩;have:(16*x+y).toNat<256:=by omega
 have e:(16*x+y).toNat.toUInt8.toNat=(16*x+y).toNat:=by simp[Nat.toUInt8];omega
 rw[e];omega
def zB (d:av×Nat):Nat ⊕ List Pm.rT :=
 if d.2≠0 then .inl d.2
 else match Pm.jL d.1 with
  | .inl c=>.inl c
  | .inr x=>if x.1≠Da then .inl 11 else .inr x.2
def partOf (ps:List Pm.rT)(t:av×Nat):Nat ⊕ YR :=
 match get JZ ps with
 | none=>.inl 6
 | some nm => match file ps with
   | none=>.inl 5
   | some f=>if t.2=9 then .inl 9 else .inr ⟨nm,f,t.1⟩
theorem K7 (d t:av×Nat):qH d t=match zB d with
 | .inl c=>.inl c
 | .inr b=>partOf b t:=by
 unfold qH zB partOf;by_cases h:d.2≠0
 . rw[if_pos h,if_pos h]
 . rw[if_neg h,if_neg h];cases Pm.jL d.1 with
   | inl c=>rfl
   | inr x =>
     simp only;by_cases a:x.1≠Da
     . rw[if_pos a,if_pos a]
     . rw[if_neg a,if_neg a];all_goals
        simp only;cases get JZ x.2 with
        | none=>rfl
        | some e=>cases file x.2 <;> rfl
theorem WM {d:av×Nat}{c:Nat}(h:d.2=0)(a:Pm.jL d.1=.inl c):zB d=.inl c:=by unfold zB;rw[if_neg (fun e=>e h),a]
theorem SE {d:av×Nat}{x:av×List Pm.rT}(h:d.2=0)(a:Pm.jL d.1=.inr x)(b:x.1≠Da):zB d=.inl 11:=by unfold zB;rw[if_neg (fun e=>e h),a];exact if_pos b
theorem Zo {d:av×Nat}{x:av×List Pm.rT}(h:d.2=0)(a:Pm.jL d.1=.inr x)(b:x.1=Da):zB d=.inr x.2:=by simp_all [Pm.rT,Pm.jL,Da,zB]
theorem IU:∀(n:Nat) (l y:av),l.length<=n->dec l=M y->y.length<=l.length
 | _,[],y,_,h=>by rw[dec] at h;injection h with h;subst h;exact aM _
 | 0,_::_,_,hn,_=>by simp at hn
 | n + 1, c :: t, y, hn, h => by
   simp only[aW] at hn;by_cases f:c=37
   . subst f;match t,hn,h with
     | [],_,h=>rw[Ak (by simp)] at h;cases h
     | [_],_,h=>rw[Ak (by simp)] at h;cases h
     | a :: b :: r, hn, h =>
       by_cases d:0<=Ch.hex a.toNat∧0<=Ch.hex b.toNat
       . rw[Qy d.1 d.2] at h;obtain⟨z,e,rfl⟩:=eG.1 h;have:=IU n r z (by simp only[aW] at hn;omega) e;simp only[aW];omega
       . rw[Qz d] at h;cases h
   . rw[K5 f] at h;obtain⟨z,e,rfl⟩:=eG.1 h;have:=IU n t z (by omega) e;simp only[aW];omega
theorem SF {l y:av}(h:coded l=M y):y.length<=l.length:=by
 unfold coded at h;split at h
 . cases h
 . have:=IU _ _ _ (aM _) h;rw[bT] at this;omega
theorem K8:∀(n:Nat) (r:av) (a b:List Pm.rT),a.length<=8->Pm.tN n r a=.inr b->b.length<=8
 | 0,r,a,b,c,h=>by rw[Pm.tN] at h;injection h with h;subst h;exact c
 | n + 1, r, a, b, c, h => by
   rw[Pm.tN] at h;split at h
   . injection h with h;subst h;exact c
   . split at h
     . cases h
     . split at h
       . cases h
       . split at h
         . cases h
         . rename_i d;exact K8 n _ _ b (by rw[aV];simp;omega) h
theorem GD {l wd:av}{a:List Pm.rT}(h:Pm.jL l=.inr (wd,a)):a.length<=8:=by
 unfold Pm.jL at h;split at h
 . cases h
 . split at h
   . cases h
   . unfold Pm.fin at h;split at h
     . cases h
     . rename_i b;injection h with h;injection h with _ h;subst h;exact K8 _ _ _ _ (aA _) b
theorem WO {d:av×Nat}{a:List Pm.rT}(h:zB d=.inr a):a.length<=8∧∀p∈a,p.2.length<=d.1.length:=by
 unfold zB at h;split at h
 . cases h
 . split at h
   . cases h
   . rename_i x b;split at h
     . cases h
     . injection h with h;subst h;exact⟨GD b,fun p c=>((Pm.zY b).2 p c).2⟩
end Go.Proofs.YthhklgjjnaeaoaaGreatDoor.Fm
namespace Go.Proofs.YthhklgjjnaeaoaaGreatDoor.Gt
open Sr
structure Ld where
 s:Sh
 ids:List Int
 told:av
 code:Nat
def oI (r:Ld)(p:Fm.Pt):Ld :=
 if (Sr.create r.s p.bytes.length (iU p)).2≠0 then { r with code:=(Sr.create r.s p.bytes.length (iU p)).2 }
 else if (Sr.append (Sr.create r.s p.bytes.length (iU p)).1 (r.s.h.last+1) 0 p.bytes).2≠0 then
  { r with s:=(Sr.drop (Sr.append (Sr.create r.s p.bytes.length (iU p)).1 (r.s.h.last+1) 0 p.bytes).1 (r.s.h.last+1)).1,code:=(Sr.append (Sr.create r.s p.bytes.length (iU p)).1 (r.s.h.last+1) 0 p.bytes).2 }
 else ⟨(Sr.append (Sr.create r.s p.bytes.length (iU p)).1 (r.s.h.last+1) 0 p.bytes).1,r.ids++[r.s.h.last+1],r.told++toldOf (r.s.h.last+1) p.file,0⟩
def adds (r:Ld):List Fm.Pt->Ld
 | []=>r
 | p::t=>if p.file.size=0 then adds r t else if (oI r p).code≠0 then oI r p else adds (oI r p) t
def ends (r:Ld):Sh×yA:=if r.code=0 then (Sr.sync r.s,(201,[],r.told)) else (Sr.sync (nP r.s r.ids),(stat r.code,[],[]))
theorem La {s:Sh}{c a:Int}{b:av}(h:(Sr.append s c a b).2≠0):(Sr.append s c a b).1=s:=Tu.lN h
theorem Lb {s:Sh}{z:Int}{m:ay}(h:(Sr.create s z m).2≠0):(Sr.create s z m).1=s:=Tu.lN h
theorem yg:∀(ps:List Fm.Pt) (r:Ld),r.code=0->lands r.s r.ids r.told ps=ends (adds r ps)
 | [],r,h=>by unfold lands adds ends;rw[if_pos h]
 | p :: t, r, h => by
   unfold lands adds;by_cases h0:p.file.size=0
   . rw[if_pos h0,if_pos h0];exact yg t r h
   . rw[if_neg h0,if_neg h0];by_cases h1:(Sr.create r.s p.bytes.length (iU p)).2=0
     . by_cases h2:(Sr.append (Sr.create r.s p.bytes.length (iU p)).1 (r.s.h.last+1) 0 p.bytes).2=0
       . have ha:oI r p=⟨(Sr.append (Sr.create r.s p.bytes.length (iU p)).1 (r.s.h.last+1) 0 p.bytes).1,r.ids++[r.s.h.last+1],r.told++toldOf (r.s.h.last+1) p.file,0⟩:=by
          unfold oI;rw[if_neg (by rw[h1];simp),if_neg (by rw[h2];simp)]
         rw[if_neg (by show ¬(Sr.create r.s p.bytes.length (iU p)).2≠0;rw[h1];simp),if_neg (by show ¬(Sr.append (Sr.create r.s p.bytes.length (iU p)).1 (r.s.h.last+1) 0 p.bytes).2≠0;rw[h2];simp),ha,if_neg (by simp)];exact yg t ⟨(Sr.append (Sr.create r.s p.bytes.length (iU p)).1 (r.s.h.last+1) 0 p.bytes).1,r.ids++[r.s.h.last+1],r.told++toldOf (r.s.h.last+1) p.file,0⟩ rfl
       . have ha:oI r p={ r with s:=(Sr.drop (Sr.append (Sr.create r.s p.bytes.length (iU p)).1 (r.s.h.last+1) 0 p.bytes).1 (r.s.h.last+1)).1,code:=(Sr.append (Sr.create r.s p.bytes.length (iU p)).1 (r.s.h.last+1) 0 p.bytes).2 }:=by
          unfold oI;rw[if_neg (by rw[h1];simp),if_pos h2]
         rw[if_neg (by show ¬(Sr.create r.s p.bytes.length (iU p)).2≠0;rw[h1];simp),if_pos (show(Sr.append (Sr.create r.s p.bytes.length (iU p)).1 (r.s.h.last+1) 0 p.bytes).2≠0 from h2),ha,if_pos h2];unfold ends;rw[if_neg h2,La h2]
     . have ha:oI r p={ r with code:=(Sr.create r.s p.bytes.length (iU p)).2 }:=by unfold oI;rw[if_pos h1]
       rw[if_pos (show(Sr.create r.s p.bytes.length (iU p)).2≠0 from h1),ha,if_pos h1];unfold ends;rw[if_neg h1]
theorem IX {r:Ld}(h:Sr.Ok r.s)(p:Fm.Pt):Sr.Ok (oI r p).s:=by
 unfold oI;split
 . exact h
 . split
   . exact((h.create _ _).append _ _ _).drop _
   . exact(h.create _ _).append _ _ _
theorem IY:∀(a:List Fm.Pt) {r:Ld},Sr.Ok r.s->Sr.Ok (adds r a).s
 | [],_,h=>h
 | p :: t, r, h => by
   unfold adds;split
   . exact IY t h
   . split
     . exact IX h p
     . exact IY t (IX h p)
structure WS (r:Ld):Prop where
 ok:Sr.Ok r.s
 told:r.told.length<=120*r.ids.length
 few:r.ids.length<=r.s.h.l.length∨r.code≠0
theorem SL {r:Ld}(h:WS r)(d:r.code=0)(p:Fm.Pt):WS (oI r p):=by
 refine⟨IX h.ok p,?_,?_⟩
 . unfold oI;split
   . exact h.told
   . rename_i a;split
     . exact h.told
     . have b:(Sr.create r.s p.bytes.length (iU p)).2=0:=dW a;have e:(iU p).size=9+p.file.size:=by
        show(AR++p.file.data.toList).toArray.size=_;rw[bK,aV,aO];rfl
       have c:=(Dl b).2;have f:=Dm (r.s.h.last+1) p.file;have g:=h.told;simp only[aV,aW,bY];omega
 . unfold oI;split
   . rename_i a;exact Or.inr a
   . rename_i a;split
     . rename_i c;exact Or.inr c
     . have b:(Sr.create r.s p.bytes.length (iU p)).2=0:=dW a;refine Or.inl ?_;show(r.ids++[r.s.h.last+1]).length<=(Sr.append _ _ _ _).1.h.l.length;rw[Kn,(Dl b).1,aV];rcases h.few with h | h
       . simp;omega
       . exact absurd d h
def bs (o:List Fm.Pt):Nat:=(o.map fun p=>p.bytes.length).sum
theorem Aq (a b:List Fm.Pt):bs (a++b)=bs a+bs b:=by unfold bs;rw[bE,List.sum_append]
theorem ab5:∀{o:List Fm.Pt} {q:Fm.Pt},q∈o->q.bytes.length<=bs o:=by intro l;induction l <;> grind [bs]
theorem ZK (o:List Fm.Pt)(e:iH)(h:e.gT=[]):bs (Fm.laid o e)<=bs o+e.bytes.length:=by
 unfold Fm.laid;split
 . rw[Aq];show _+(e.gT.length+0)<=_;rw[h];show bs o+0<=_;omega
 . split
   . rcases bB o with rfl | ⟨q,p,rfl⟩
     . exact aA _
     . rw[bD,List.dropLast_concat,dX,Aq,Aq];show bs q+(e.bytes.length+0)<=bs q+bs [p]+e.bytes.length;omega
   . omega
theorem TK (o:List Fm.Pt)(e:iH)(h:e.ku.size<=200)(b:∀q∈o,q.file.size<=200):∀q∈Fm.laid o e,q.file.size<=200:=by
 unfold Fm.laid;split
 . intro q a;rcases bq.1 a with a | a
   . exact b q a
   . rw[bA.1 a];exact h
 . split
   . rcases bB o with rfl | ⟨r,p,rfl⟩
     . intro q a;cases a
     . rw[bD] at b ⊢;rw[List.dropLast_concat,dX];intro q a;rcases bq.1 a with a | a
       . exact b q (bH _ a)
       . have:q={ p with bytes:=e.bytes }:=bA.1 a;rw[this];exact b p (dN _ (by simp))
   . exact b
theorem ZL (es:List iH)(h:∀e∈es,Fm.tX e):bs (Fm.pR es)<=lC es∧∀q∈Fm.pR es,q.file.size<=200:=by
 have a:∀(m:List iH) (o:List Fm.Pt),(∀e∈m,Fm.tX e)->(∀q∈o,q.file.size<=200)->bs (m.foldl Fm.laid o)<=bs o+lC m∧∀q∈m.foldl Fm.laid o,q.file.size<=200:=by
  intro m;induction m with
  | nil=>intro o _ b;exact⟨aM _,b⟩
  | cons e t g =>
    intro o c b;have d:=c e (by simp);have i:=ZK o e d.gT;have f:=g (Fm.laid o e) (fun x j=>c x (by simp[j])) (TK o e d.ku b);refine⟨?_,f.2⟩;show bs (t.foldl Fm.laid (Fm.laid o e))<=bs o+(e.bytes.length+lC t);have:=f.1;omega
 have:=a es [] h (fun q k=>by cases k);refine⟨?_,this.2⟩;have i:bs (Fm.pR es)<=0+lC es:=this.1;omega
theorem ZM:∀o:List Fm.Pt,room o=bs o+200*o.length:=by intro l;induction l <;> grind [room,bs]
theorem LK {b body:av}{a:List Fm.Pt}(h:parts b body=M a)(c:3<=(Fm.mark b).length)(d:Fm.Good (Fm.mark b) Fm.start)(g:Fm.start.held<=1000)(i:body.length<=20000):room a<=1000000000∧a.length<=1000000∧∀q∈a,q.bytes.length<=1000000∧q.file.size<=900000:=by
 unfold parts at h;split at h
 . injection h with h;subst h;have j:=Fm.oV c body d;have k:=tT (Fm.outs (Fm.mark b) Fm.start body);have l:=F4 (Fm.outs (Fm.mark b) Fm.start body);have f:=ZL _ (Fm.oz (Fm.qo c body d));have m:=Fm.A8 (lT (Fm.outs (Fm.mark b) Fm.start body));have n:=ZM (Fm.pR (lT (Fm.outs (Fm.mark b) Fm.start body)));refine⟨by omega,by omega,fun q e=>⟨?_,by have:=f.2 q e;omega⟩⟩;have:=ab5 e;omega
 . cases h
theorem Xv (r:Ld)(p:Fm.Pt):(oI r p).ids.length<=r.ids.length+1:=by grind [oI]
theorem Es:∀(a:List Fm.Pt) (r:Ld),(adds r a).ids.length<=r.ids.length+a.length
 | [],_=>aM _
 | p :: t, r => by
   unfold adds;rw[aW];split
   . have:=Es t r;omega
   . have b:=Xv r p;split
     . omega
     . have:=Es t (oI r p);omega
/-! ### a form, by its ways -/
section
variable {s:Sh} {l:au} {body b:av} {ps:List Fm.Pt}
theorem TL (h:bound l=U):land s l body=(s,(415,[],[])):=by unfold land;rw[h]
theorem Xw (h:bound l=M b)(a:parts b body=U):land s l body=(s,(400,[],[])):=by grind [bound,parts,land]
theorem TM (h:bound l=M b)(a:parts b body=M ps)(c:100000<s.log.length+room ps):land s l body=(s,(507,[],[])):=by grind [bound,parts,room,land]
theorem TN (h:bound l=M b)(a:parts b body=M ps)(c:¬100000<s.log.length+room ps):land s l body=ends (adds ⟨s,[],[],0⟩ ps):=by
 unfold land;rw[h];show(match parts b body with | none=>_ | some ps=>_)=_;rw[a];show(if 100000<s.log.length+room ps then _ else _)=_;rw[if_neg c];exact yg ps ⟨s,[],[],0⟩ rfl
end
end Go.Proofs.YthhklgjjnaeaoaaGreatDoor.Gt
namespace Go.Proofs.YthhklgjjnaeaoaaGreatDoor.Pt
open Sr
theorem Pn {s:Sh}{b:Int}(h:(Sr.begins s b).2=0):∃i u,Sp.place s.h.l b=M i∧s.h.l[i]? = M u∧u.id=b∧u.sent=0∧u.size=u.bytes.length∧(Sr.begins s b).1.h=⟨s.h.l.set i { u with sent:=1 },s.h.last⟩:=by
 unfold Sr.begins at h ⊢;obtain⟨a,j⟩:=Tu.Ng h;rw[j];cases c:Sp.place s.h.l b with
 | none=>unfold Sp.begins at a;rw[Sp.oh c] at a;cases a
 | some i =>
   obtain⟨u,d,e⟩:=Sp.yE _ _ _ c;have k:=Sp.lg c;have m:s.h.l[i]=u:=by rw[dz k] at d;injection d
   unfold Sp.begins at a ⊢;rw[Sp.om c,m] at a ⊢;by_cases f:u.sent≠0
   . rw[if_pos f] at a;cases a
   rw[if_neg f] at a ⊢;by_cases g:u.size≠u.bytes.length
   . rw[if_pos g] at a;cases a
   rw[if_neg g];exact⟨i,u,rfl,d,e,by omega,by omega,rfl⟩
theorem Hf:∀(l:List Sp.Up) (a:Int) (i:Nat) (u v:Sp.Up),l[i]? = M u->v.id=u.id->Sp.place (l.set i v) a=Sp.place l a
 | [],_,_,_,_,h,_=>by simp at h
 | x :: t, a, 0, u, v, h, e => by
   have h:x=u:=by simpa using h
   subst h;rw[dS,Sp.place,Sp.place,e]
 | x :: t, a, i + 1, u, v, h, e => by
   rw[List.set_cons_succ,Sp.place,Sp.place,Hf t a i u v (by simpa using h) e]
theorem Z6 {s:Sh}{a:Int}{i:Nat}{u:Sp.Up}(b:Sp.place s.h.l a=M i)(e:s.h.l[i]? = M u)(f:(Sr.begins s a).1.h=⟨s.h.l.set i { u with sent:=1 },s.h.last⟩):Sp.place (Sr.begins s a).1.h.l a=M i∧(Sr.begins s a).1.h.l[i]? = M { u with sent:=1 }∧Il (Sr.begins s a).1.h a=onward u:=by
 have c:Sp.place (s.h.l.set i { u with sent:=1 }) a=M i:=(Hf _ a i u { u with sent:=1 } e rfl).trans b;have d:(s.h.l.set i { u with sent:=1 })[i]? = M { u with sent:=1 }:=by rw[List.getElem?_set_self (Sp.lg b)]
 rw[f];refine⟨c,d,?_⟩;unfold Il get;simp only[c,d];rfl
/-! ### nothing is sent on twice -/
/-! ### what is sent on is one request -/
end Go.Proofs.YthhklgjjnaeaoaaGreatDoor.Pt
namespace Go.Proofs.YthhklgjjnaeaoaaGreatDoor
open Go.RowKit
structure UO where
 bo:ak
 fU:Nat
def Yb (x:Pt.aan)(s:UO):List Value:=[.int .i64 x.kind,.int .i64 x.conn,.int .i64 x.n,.slice s.bo x.b.length s.fU]
def pxV (l:List (Pt.aan×UO)):List Value:=l.flatMap fun q=>Yb q.1 q.2
theorem EN (l:List (Pt.aan×UO)):(pxV l).length=l.length*4:=by
 induction l with
 | nil=>rfl
 | cons p t a =>
   have:(Yb p.1 p.2).length=4:=rfl;simp only[pxV,aU,aV,aW] at a ⊢;omega
theorem Pw:∀(l:List (Pt.aan×UO)) (i:Nat) (a:i<l.length) (j:Nat),j<4->(pxV l)[i*4+j]? = (Yb l[i].1 l[i].2)[j]?
 | p :: t, 0, _, j, hj => by
   show(Yb p.1 p.2++pxV t)[0*4+j]? = _;rw[aX (by rw[show(Yb p.1 p.2).length=4 from rfl];omega),aY,aZ];rfl
 | p :: t, i + 1, a, j, hj => by
   show(Yb p.1 p.2++pxV t)[(i+1)*4+j]? = _;rw[bg (by rw[show(Yb p.1 p.2).length=4 from rfl];omega),show(Yb p.1 p.2).length=4 from rfl,show(i+1)*4+j-4=i*4+j by omega];exact Pw t i (by simpa using a) j hj
def rR (w:X)(ao:ak)(cap:Nat)(l:List Pt.aan):Prop:=∃qs:List (Pt.aan×UO),qs.map (·.1)=l∧ji w ao cap l.length (pxV qs)∧∀q∈qs,gN w q.2.bo q.2.fU q.1.b
theorem rR.stay {w w':X}{ao:ak}{cap:Nat}{l:List Pt.aan}(h:rR w ao cap l)(a:Below w.heap.size w w'):rR w' ao cap l:=by
 obtain⟨b,c,d,e⟩:=h;exact⟨b,c,d.stay a,fun q f=>(e q f).stay a⟩
theorem rR.nil (w:X):rR w U 0 []:=⟨[],rfl,ji.nil w,fun q a=>by cases a⟩
theorem rR.cap_ {w:X}{ao:ak}{cap:Nat}{l:List Pt.aan}(h:rR w ao cap l):l.length<=cap:=by
 obtain⟨_,_,a,_⟩:=h;exact a.1
structure Yc (w:X)(b o:Nat)(x:Pt.aan)(s:UO):Prop where
 c0:w.cell? ⟨b,o,U⟩=M (.int .i64 x.kind)
 c1:w.cell? ⟨b,o+1,U⟩=M (.int .i64 x.conn)
 c2:w.cell? ⟨b,o+2,U⟩=M (.int .i64 x.n)
 c3:w.cell? ⟨b,o+3,U⟩=M (.slice s.bo x.b.length s.fU)
 by_:gN w s.bo s.fU x.b
theorem rR.at_ {w:X}{ao:ak}{cap:Nat}{l:List Pt.aan}(h:rR w ao cap l)(k:Nat)(f:k<l.length):∃(b o:Nat) (s:UO),ao=M ⟨b,o,U⟩∧Yc w b (o+k*4) l[k] s:=by
 obtain⟨d,rfl,g,i⟩:=h;have a:k<d.length:=by simpa using f
 obtain⟨b,o,rfl,c⟩:=g.lit (by rw[EN];omega);have m:=i _ (aC a);have e:=fun j n=>Pw d k a j n;refine⟨b,o,d[k].2,rfl,?_⟩;rw[aG];refine⟨?_,?_,?_,?_,m⟩
 . have:=e 0 (by decide);rw[bI] at this;exact c _ _ this
 . rw[bJ];exact c _ _ (e 1 (by decide))
 . rw[bJ];exact c _ _ (e 2 (by decide))
 . rw[bJ];exact c _ _ (e 3 (by decide))
end Go.Proofs.YthhklgjjnaeaoaaGreatDoor
namespace Go.Proofs.YthhklgjjnaeaoaaGreatDoor
end Go.Proofs.YthhklgjjnaeaoaaGreatDoor
namespace Go.Proofs.YthhklgjjnaeaoaaGreatDoor.Pt
open Sr
def pbB:av:=[80,79,83,84,32,47,102,105,108,101,115,32,72,84,84,80,47,49,46,49,13,10,72,111,115,116,58,32,97,13,10,84,117,115,45,82,101,115,117,109,97,98,108,101,58,32,49,46,48,46,48,13,10,85,112,108,111,97,100,45,76,101,110,103,116,104,58,32,48,13,10,13,10]
def pbU:av:=[80,79,83,84,32,47,116,97,107,101,47,49,32,72,84,84,80,47,49,46,49,13,10,72,111,115,116,58,32,105,110,108,97,110,100,13,10,67,111,110,116,101,110,116,45,76,101,110,103,116,104,58,32,48,13,10,13,10]
def x1:aan:=⟨1,0,0,pbB⟩
def x2:aan:=⟨3,0,1,[]⟩
theorem acz:(step new x1).2.code=0∧0<(step new x1).2.out.length∧(step new x1).2.out.length<=1000:=by decide +kernel
theorem acA:(step (step new x1).1 x2).2.code=0∧(step (step new x1).1 x2).2.up=pbU:=by decide +kernel
theorem Ye:(step (step (step new x1).1 x2).1 x2).2.code=19∧(step (step (step new x1).1 x2).1 x2).1.tr=[1]:=by decide +kernel
theorem Jv (p:P)(x:aan):(step p x).1.tr.length<=p.tr.length+1:=by
 unfold step vI stepG Gg stepT Qc;repeat' split
 all_goals simp
theorem Pz (l:List aan):∀i,i<=l.length->(run new (l.take i)).tr.length<=i
 | 0,_=>aM _
 | i + 1, h => by
   rw[Dt new l i (by omega)];have:=Jv (run new (l.take i)) l[i];have:=Pz l i (by omega);omega
end Go.Proofs.YthhklgjjnaeaoaaGreatDoor.Pt