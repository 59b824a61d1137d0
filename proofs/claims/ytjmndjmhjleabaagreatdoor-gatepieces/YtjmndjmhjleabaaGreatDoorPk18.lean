/- Small texts, one behind the other: PlainHA, PlainHB, PlainHF, PlainHC, PlainHD, PlainHE, PlainHV, PlainHW, PlainGA, PlainGB, PlainGC, PlainHS, PlainHT, PlainHU, PlainGD, PlainGE. -/
import Derived.Test.YtjmndjmhjleabaaGreatDoorPlainRA
import Derived.Test.YtjmndjmhjleabaaGreatDoorPk4
import Derived.Test.YtjmndjmhjleabaaGreatDoorPk9
import Derived.Test.YtjmndjmhjleabaaGreatDoorPk1
import Derived.Test.YtjmndjmhjleabaaGreatDoorPk8
import Derived.Test.YtjmndjmhjleabaaGreatDoorPk14
namespace Go.Proofs.YtjmndjmhjleabaaGreatDoor.Fm
def stroke (c:UInt8):Bool:=c==47||c==92
def tail (l:List UInt8):List UInt8:=(l.reverse.takeWhile fun c=>!stroke c).reverse
def dirty (c:UInt8):Bool:=c==9||c==34||c==58||!Ch.visible c.toNat
def rD (c:UInt8):UInt8:=if dirty c then 95 else c
def Au (l:List UInt8):List UInt8:=l.dropWhile (·==46)
def uR:List UInt8:=[102,105,108,101]
def named (l:List UInt8):List UInt8:=if l=[] then uR else l
def safe (l:List UInt8):List UInt8:=named ((Au ((tail l).map rD)).take 40)
def dec:List UInt8->Option (List UInt8)
 | []=>some []
 | c :: t => if c = 37 then (match t with
     | a::b::r=>if 0<=Ch.hex a.toNat∧0<=Ch.hex b.toNat then (dec r).map ((16*Ch.hex a.toNat+Ch.hex b.toNat).toNat.toUInt8::·) else none
     | _=>none)
  else (dec t).map (c::·)
def WY:List UInt8:=[117,116,102,45,56,39,39]
def coded (l:List UInt8):Option (List UInt8):=if l.length<7∨Ch.lower (l.take 7)≠WY then none else dec (l.drop 7)
def get (n:List UInt8)(ps:List Pm.lW):Option (List UInt8):=(ps.find? fun p=>p.1==n).map (·.2)
def Dx:List UInt8:=[110,97,109,101]
def F7:List UInt8:=[102,105,108,101,110,97,109,101]
def BI:List UInt8:=[102,105,108,101,110,97,109,101,42]
def Av:List UInt8:=[102,111,114,109,45,100,97,116,97]
def NW:List UInt8:=[99,111,110,116,101,110,116,45,100,105,115,112,111,115,105,116,105,111,110]
def nType:List UInt8:=[99,111,110,116,101,110,116,45,116,121,112,101]
def file (ps:List Pm.lW):Option (List UInt8) :=
 match get BI ps with
 | some x=>(coded x).map safe
 | none => match get F7 ps with
   | some x=>some (safe x)
   | none=>some []
structure Rm where
 name:List UInt8
 file:List UInt8
 type:List UInt8
def one:List (List UInt8)->List UInt8×Nat
 | []=>([],10)
 | [v]=>(v,0)
 | _=>([],9)
def jM (d t:List UInt8×Nat):Nat ⊕ Rm :=
 if d.2≠0 then .inl d.2
 else match Pm.dI d.1 with
  | .inl c=>.inl c
  | .inr x => if x.1 ≠ Av then .inl 11
    else match get Dx x.2 with
     | none=>.inl 6
     | some nm => match file x.2 with
       | none=>.inl 5
       | some f=>if t.2=9 then .inl 9 else .inr ⟨nm,f,t.1⟩
def part (fs:List Rq.Fl):Nat ⊕ Rm:=jM (one (Rq.vals fs NW)) (one (Rq.vals fs nType))
def Ji (p:Rm):aZ:=⟨5,⟨#[]⟩,⟨#[]⟩,0,[],0,[],⟨p.name.toArray⟩,⟨p.file.toArray⟩,⟨p.type.toArray⟩,[],0⟩
def Dy:aZ:=⟨6,⟨#[]⟩,⟨#[]⟩,0,[],0,[],⟨#[]⟩,⟨#[]⟩,⟨#[]⟩,[],0⟩
def WZ:aZ:=⟨3,⟨#[]⟩,⟨#[]⟩,0,[],0,[],⟨#[]⟩,⟨#[]⟩,⟨#[]⟩,[],0⟩
def NY (c:Nat):aZ:=⟨4,⟨#[]⟩,⟨#[]⟩,0,[],0,[],⟨#[]⟩,⟨#[]⟩,⟨#[]⟩,[],(c:Int)⟩
def iC (l:List UInt8):List aZ:=if l=[] then [] else [dB l]
structure St where
 place:Nat
 held:Nat
 ahead:Nat
 ln:Ln.St
 fields:List Rq.Fl
 parts:Nat
 code:Nat
def zero:St:=⟨0,0,0,Ln.start,[],0,0⟩
def start:St:=⟨0,2,2,Ln.start,[],0,0⟩
def failed (c:Nat):St:={ zero with code:=c }
def done:St:={ zero with place:=6 }
def live (s:St):Prop:=s.code=0∧s.place≠6
instance (s:St):Decidable (live s):=by unfold live;infer_instance
def turn (p:Nat)(c:UInt8):Nat×Nat :=
 if p=4 then (if c=10 then (5,0) else (0,2))
 else if p=2 then (if c=45 then (6,0) else (0,5))
 else if p=1∧c=45 then (2,0)
 else if c=32∨c=9 then (3,0)
 else if c=13 then (4,0)
 else (0,5)
def fails (c:Nat):St×List aZ:=(failed c,[NY c])
def line (s:St)(t:List UInt8):St×List aZ :=
 if t≠[] then
  if s.fields.length=16 then fails 8
  else if (Fd.of t).code≠0 then fails (Fd.of t).code
  else ({ s with fields:=s.fields++[((Fd.of t).name,(Fd.of t).value)] },[])
 else match part s.fields with
  | .inl c=>fails c
  | .inr p=>if s.parts=12 then fails 8 else ({ s with fields:=[],parts:=s.parts+1,place:=0,held:=2,ahead:=2 },[Ji p])
def next (m:List UInt8)(s:St)(c:UInt8):St×List aZ :=
 if ¬live s then (s,[])
 else if s.place=0 then
  ({ s with held := Sk.after m s.held c, ahead := s.ahead-(Sk.out m s.held c).length, place := if Sk.found m s.held c then 1 else 0 },
   if 0<s.parts then iC ((Sk.out m s.held c).drop s.ahead)++(if Sk.found m s.held c then [Dy] else []) else [])
 else if s.place=5 then
  if (Ln.next s.ln c).code≠0 then fails (Ln.next s.ln c).code
  else if Ln.ends s.ln c then line { s with ln:=Ln.next s.ln c } (Ln.text s.ln c)
  else ({ s with ln:=Ln.next s.ln c },[])
 else if (turn s.place c).2≠0 then fails (turn s.place c).2
 else if (turn s.place c).1=6 then (done,[WZ])
 else ({ s with place:=(turn s.place c).1 },[])
def fold (m:List UInt8):St->List UInt8->St
 | s,[]=>s
 | s,c::t=>fold m (next m s c).1 t
def outs (m:List UInt8):St->List UInt8->List aZ
 | _,[]=>[]
 | s,c::t=>(next m s c).2++outs m (next m s c).1 t
def close (s:St):Nat:=if s.code=0∧s.place≠6 then 14 else s.code
def mark (b:List UInt8):List UInt8:=13::10::45::45::b
def fF (b:List UInt8):Bool:=!b.isEmpty&&decide (b.length<=70)&&Ch.aP b&&decide (Lib.trimS b Ch.ws=b)
theorem eZ (m:List UInt8):∀(a b:List UInt8) (s:St),fold m s (a++b)=fold m (fold m s a) b
 | [],_,_=>rfl
 | _::t,b,_=>eZ m t b _
theorem fq (m:List UInt8):∀(a b:List UInt8) (s:St),outs m s (a++b)=outs m s a++outs m (fold m s a) b
 | [],_,_=>rfl
 | c :: t, b, s => by
   show(next m s c).2++outs m (next m s c).1 (t++b)=_;rw[fq m t b];show _=((next m s c).2++outs m (next m s c).1 t)++_;rw[List.append_assoc];rfl
theorem tT (m:List UInt8)(s:St)(l:List UInt8)(c:UInt8):fold m s (l++[c])=(next m (fold m s l) c).1:=by rw[eZ];rfl
theorem tV (m:List UInt8)(s:St)(l:List UInt8)(c:UInt8):outs m s (l++[c])=outs m s l++(next m (fold m s l) c).2:=by
 rw[fq];show _++(_++[])=_;rw[List.append_nil]
theorem Kn {m:List UInt8}{s:St}(h:¬live s)(c:UInt8):next m s c=(s,[]):=by unfold next;rw[if_pos h]
theorem l6 {m:List UInt8}:∀(l:List UInt8) {s:St},¬live s->outs m s l=[]∧fold m s l=s
 | [],_,_=>⟨rfl,rfl⟩
 | c :: t, s, h => by
   have ih:=l6 (m:=m) t h;show(next m s c).2++outs m (next m s c).1 t=[]∧fold m (next m s c).1 t=s;rw[Kn h];exact ih
structure Td where
 es:List aZ
 bs:List UInt8
def flush (t:Td):List aZ:=t.es++iC t.bs
def tell (t:Td)(e:aZ):Td:=if e.kind=2 then ⟨t.es,t.bs++e.bytes⟩ else ⟨flush t++[e],[]⟩
def tells (t:Td)(l:List aZ):Td:=l.foldl tell t
def zJ:Td:=⟨[],[]⟩
def Clean (l:List aZ):Prop:=∀e∈l,e.kind=2->e=dB e.bytes∧e.bytes≠[]
theorem Clean.append {a b:List aZ}(h:Clean a)(k:Clean b):Clean (a++b):=fun e he=>by
 rcases List.mem_append.1 he with he | he
 . exact h e he
 . exact k e he
theorem clean_nil:Clean []:=fun e he=>by cases he
theorem Dz (l:List UInt8):Clean (iC l):=by
 unfold iC;split
 . exact clean_nil
 . rename_i h;intro e he _;rw[List.mem_singleton.1 he];exact⟨rfl,h⟩
theorem pF {e:aZ}(h:e.kind≠2):Clean [e]:=fun x hx k=>by rw[List.mem_singleton.1 hx] at k;exact absurd k h
theorem iD (c:Nat):Clean (fails c).2:=pF (by show(4:Int)≠2;decide)
theorem F8 (s:St)(t:List UInt8):Clean (line s t).2:=by
 unfold line;split
 . split
   . exact iD _
   . split
     . exact iD _
     . exact clean_nil
 . split
   . exact iD _
   . split
     . exact iD _
     . exact pF (by show(5:Int)≠2;decide)
theorem F9 (m:List UInt8)(s:St)(c:UInt8):Clean (next m s c).2:=by
 unfold next;split
 . exact clean_nil
 . split
   . show Clean (if 0<s.parts then _ else _);split
     . refine Clean.append (Dz _) ?_;split
       . exact pF (by decide)
       . exact clean_nil
     . exact clean_nil
   . split
     . split
       . exact iD _
       . split
         . exact F8 _ _
         . exact clean_nil
     . split
       . exact iD _
       . split
         . exact pF (by decide)
         . exact clean_nil
theorem qI (m:List UInt8):∀(l:List UInt8) (s:St),Clean (outs m s l)
 | [],_=>clean_nil
 | c::t,s=>(F9 m s c).append (qI m t _)
theorem Ga (t:Td)(l:List aZ)(e:aZ):tells t (l++[e])=tell (tells t l) e:=by unfold tells;rw[List.foldl_append];rfl
theorem rE (t:Td)(a b:List aZ):tells t (a++b)=tells (tells t a) b:=by unfold tells;rw[List.foldl_append]
theorem uS (l:List aZ)(h:Clean l):flush (tells zJ l)=fP l∧tailD (tells zJ l).es=false:=by
 have:∀n (l:List aZ),l.length=n->Clean l->flush (tells zJ l)=fP l∧tailD (tells zJ l).es=false:=by
  intro n;induction n with
  | zero=>intro l hl _;rw[List.eq_nil_of_length_eq_zero hl];exact⟨rfl,rfl⟩
  | succ n ih =>
    intro l hl hc;rcases List.eq_nil_or_concat l with rfl | ⟨q,x,rfl⟩
    . simp at hl
    . rw[List.concat_eq_append] at hl hc ⊢;obtain⟨i1,i2⟩:=ih q (by simpa using hl) (fun e he=>hc e (List.mem_append_left _ he));rw[Ga,xB,<-i1];generalize tells zJ q=t at i1 i2;obtain⟨es,bs⟩:=t;simp only at i2;by_cases hk:x.kind=2
      . obtain⟨hx,hx2⟩:=hc x (by simp) hk;unfold tell;rw[if_pos hk];refine⟨?_,i2⟩;unfold flush iC;simp only;rw[if_neg (by simp[hx2])];by_cases hb:bs=[]
        . subst hb;rw[if_pos rfl,List.append_nil,gq _ _ (fun _=>i2),List.nil_append,<-hx]
        . rw[if_neg hb,iq _ _ _ rfl hk];rfl
      . unfold tell;rw[if_neg hk];refine⟨?_,?_⟩
        . rw[gq _ _ (fun e=>absurd e hk)];show(_++[x])++iC []=_;simp[iC]
        . show tailD (_++[x])=false;rw[kJ,decide_eq_false hk]
 exact this _ l rfl h
structure Good (m:List UInt8)(s:St):Prop where
 place:s.place<=6
 held:s.held<=m.length-1
 idle:s.place≠0->s.held=0
 ln:Ln.Good s.ln
 lc:s.ln.code=0
 many:s.fields.length<=16
 short:∀f∈s.fields,f.1.length<=200∧f.2.length<=200
 bare:s.place≠5->s.ln=Ln.start∧s.fields=[]
 parts:s.parts<=12
 code:s.code<=20
theorem Good.start {m:List UInt8}(hm:3<=m.length):Good m start:=⟨Nat.zero_le _,by show 2<=_;omega,fun h=>absurd rfl h,Ln.Good.start,rfl,Nat.zero_le _,(fun f hf=>by cases hf),fun _=>⟨rfl,rfl⟩,Nat.zero_le _,Nat.zero_le _⟩
theorem Good.failed {m:List UInt8}{c:Nat}(hc:c<=20):Good m (failed c):=⟨Nat.zero_le _,Nat.zero_le _,fun _=>rfl,Ln.Good.start,rfl,Nat.zero_le _,(fun f hf=>by cases hf),fun _=>⟨rfl,rfl⟩,Nat.zero_le _,hc⟩
theorem Good.done {m:List UInt8}:Good m done:=⟨Nat.le_refl _,Nat.zero_le _,fun _=>rfl,Ln.Good.start,rfl,Nat.zero_le _,(fun f hf=>by cases hf),fun _=>⟨rfl,rfl⟩,Nat.zero_le _,Nat.zero_le _⟩
theorem N8 (m:List UInt8)(h:Nat)(c:UInt8)(hm:0<m.length):Sk.after m h c<=m.length-1:=by
 unfold Sk.after;split
 . exact Nat.zero_le _
 . rename_i hf;have h1:=Sk.F6 m h c;unfold Sk.found at hf;rw[decide_eq_true hm,Bool.true_and,decide_eq_true_eq] at hf;omega
theorem xG {s:Ln.St}{c:UInt8}(h:Ln.ends s c=true):Ln.next s c=Ln.start:=by
 unfold Ln.ends at h;rw[decide_eq_true_eq] at h;obtain⟨h1,h2,h3⟩:=h;unfold Ln.next;rw[if_neg (by omega),if_neg (by omega),if_pos h3];rfl
theorem N9 (s:Ln.St)(c:UInt8):Ln.fault s c<=4:=by
 unfold Ln.fault;split
 . split
   . omega
   . split
     . omega
     . split <;> omega
 . omega
theorem Kq {s:Ln.St}(c:UInt8)(h:s.code=0):(Ln.next s c).code<=4:=by
 unfold Ln.next;rw[if_neg (by omega)];split
 . exact N9 s c
 . split
   . exact Nat.zero_le _
   . split
     . show s.code<=4;omega
     . show s.code<=4;omega
theorem Ro (t:List UInt8):(Fd.of t).code<=20:=by
 unfold Fd.of Fd.bad;repeat' split
 all_goals (first | exact Nat.zero_le _ | (simp only;omega) | decide)
theorem Jl (p:Nat)(c:UInt8):(turn p c).1<=6∧(turn p c).2<=20:=by
 unfold turn;repeat' split
 all_goals decide
theorem UD {r:List UInt8}{c:Nat}(h:Pm.val r=.inl c):c<=20:=by
 unfold Pm.val at h;repeat' split at h
 all_goals (first | cases h;done | (injection h with h;omega))
theorem UE {r:List UInt8}{c:Nat}(h:Pm.par r=.inl c):c<=20:=by
 unfold Pm.par at h;split at h
 . simp only[] at h;split at h
   . injection h with h;omega
   . split at h
     . split at h
       . rename_i hv;injection h with h;subst h;exact UD hv
       . cases h
     . injection h with h;omega
 . injection h with h;omega
theorem Jm:∀(n:Nat) (r:List UInt8) (acc:List Pm.lW) (c:Nat),Pm.mO n r acc=.inl c->c<=20
 | 0,r,acc,c,h=>by rw[Pm.mO] at h;cases h
 | n + 1, r, acc, c, h => by
   rw[Pm.mO] at h;split at h
   . cases h
   . split at h
     . rename_i hp;injection h with h;subst h;exact UE hp
     . split at h
       . injection h with h;omega
       . split at h
         . injection h with h;omega
         . exact Jm n _ _ c h
theorem Oa {l:List UInt8}{c:Nat}(h:Pm.dI l=.inl c):c<=20:=by
 unfold Pm.dI at h;split at h
 . injection h with h;omega
 . split at h
   . rename_i hw;injection h with h;subst h;unfold Pm.Uv at hw;simp only[] at hw;repeat' split at hw
     all_goals (first | (injection hw with hw;omega) | (cases hw;done))
   . unfold Pm.fin at h;split at h
     . rename_i hp;injection h with h;subst h;exact Jm _ _ _ _ hp
     . cases h
theorem Rs {fs:List Rq.Fl}{c:Nat}(h:part fs=.inl c):c<=20:=by
 unfold part jM at h;split at h
 . injection h with h;subst h;unfold one;split <;> (first | exact Nat.zero_le _ | decide)
 . split at h
   . rename_i hm;injection h with h;subst h;exact Oa hm
   . repeat' split at h
     all_goals (first | (injection h with h;omega) | (cases h;done))
theorem Good.line {m:List UInt8}{s:St}(h:Good m s)(hm:3<=m.length)(h5:s.place=5)(hl:s.ln=Ln.start){t:List UInt8}(ht:t.length<=200):Good m (line s t).1:=by
 unfold Fm.line;split
 . split
   . exact Good.failed (by omega)
   . split
     . exact Good.failed (Ro t)
     . rename_i h16 hf;have:=Fd.Aw t;refine⟨h.place,h.held,h.idle,h.ln,h.lc,?_,fun f hf=>?_,fun e=>absurd h5 e,h.parts,h.code⟩
       . have:=h.many;show(s.fields++[_]).length<=16;rw[List.length_append];simp;omega
       . rcases List.mem_append.1 hf with hf | hf
         . exact h.short f hf
         . rw[List.mem_singleton.1 hf];exact⟨by show(Fd.of t).name.length<=_;omega,by show(Fd.of t).value.length<=_;omega⟩
 . split
   . rename_i hp;exact Good.failed (Rs hp)
   . split
     . exact Good.failed (by omega)
     . rename_i hp;have:=h.parts;exact⟨Nat.zero_le _,by show 2<=_;omega,fun e=>absurd rfl e,h.ln,h.lc,Nat.zero_le _,(fun f hf=>by cases hf),fun _=>⟨hl,rfl⟩,by show s.parts+1<=12;omega,h.code⟩
theorem Good.next {m:List UInt8}{s:St}(h:Good m s)(hm:3<=m.length)(c:UInt8):Good m (next m s c).1:=by
 unfold Fm.next;split
 . exact h
 . split
   . rename_i h0;refine⟨?_,N8 m _ c (by omega),fun e=>?_,h.ln,h.lc,h.many,h.short,fun _=>h.bare (by omega),h.parts,h.code⟩
     . show(if _ then 1 else 0)<=6;split <;> omega
     . show Sk.after m s.held c=0;unfold Sk.after;cases hf:Sk.found m s.held c
       . exfalso;exact e (by show(if Sk.found m s.held c then 1 else 0)=0;rw[hf];rfl)
       . rfl
   . rename_i h0;split
     . rename_i h5;split
       . exact Good.failed (by have:=Kq c h.lc;omega)
       . rename_i hn;have hg:Good m { s with ln:=Ln.next s.ln c }:=⟨h.place,h.held,h.idle,Ln.o7 h.ln,by show(Ln.next s.ln c).code=0;omega,h.many,h.short,fun e=>absurd h5 e,h.parts,h.code⟩;split
         . rename_i he;exact hg.line hm h5 (xG he) (Rq.mU h.ln).1
         . exact hg
     . rename_i h5;split
       . exact Good.failed (Jl _ _).2
       . split
         . exact Good.done
         . rename_i ht h6;exact⟨(Jl _ _).1,h.held,fun _=>h.idle h0,h.ln,h.lc,h.many,h.short,fun _=>h.bare h5,h.parts,h.code⟩
theorem Good.fold {m:List UInt8}(hm:3<=m.length):∀(l:List UInt8) {s:St},Good m s->Good m (fold m s l)
 | [],_,h=>h
 | c::t,_,h=>Good.fold hm t (h.next hm c)
theorem qJ (m:List UInt8)(h:Nat)(c:UInt8)(hh:h<=m.length-1):(Sk.out m h c).length+Sk.after m h c<=h+1:=by
 cases hf:Sk.found m h c
 . have h2:=Sk.wI m h c;unfold Sk.after Sk.out;rw[hf,if_neg (by simp),List.length_take];simp;omega
 . rw[Sk.Aq hf hh];unfold Sk.after;rw[hf];simp
theorem AA (l:List UInt8):fE (iC l)=l.length:=by
 unfold iC;split
 . rename_i h;subst h;rfl
 . simp[fE,dB]
theorem Oc (s:St)(t:List UInt8):fE (line s t).2=0∧(line s t).2.length<=1:=by
 unfold line;split
 . split
   . exact⟨rfl,Nat.le_refl _⟩
   . split
     . exact⟨rfl,Nat.le_refl _⟩
     . exact⟨rfl,Nat.zero_le _⟩
 . split
   . exact⟨rfl,Nat.le_refl _⟩
   . split
     . exact⟨rfl,Nat.le_refl _⟩
     . exact⟨rfl,Nat.le_refl _⟩
theorem Kr {s:St}(t:List UInt8)(hi:s.held=0):(line s t).1.held<=2:=by
 unfold line;split
 . split
   . exact Nat.zero_le _
   . split
     . exact Nat.zero_le _
     . show s.held<=2;omega
 . split
   . exact Nat.zero_le _
   . split
     . exact Nat.zero_le _
     . exact Nat.le_refl _
theorem Od {m:List UInt8}{s:St}(h:Good m s)(c:UInt8):fE (next m s c).2+(next m s c).1.held<=s.held+2∧(next m s c).2.length<=2:=by
 unfold next;split
 . exact⟨by show 0+s.held<=_;omega,Nat.zero_le _⟩
 . split
   . have h1:=qJ m s.held c h.held;have e1:fE (if Sk.found m s.held c then [Dy] else [])=0:=by split <;> rfl
     have e2:(if Sk.found m s.held c then [Dy] else []).length<=1:=by split <;> simp
     have e3:(iC ((Sk.out m s.held c).drop s.ahead)).length<=1:=by unfold iC;split <;> simp
     have e4:((Sk.out m s.held c).drop s.ahead).length<=(Sk.out m s.held c).length:=by rw[List.length_drop];omega
     show fE (if 0<s.parts then _ else _)+Sk.after m s.held c<=_∧(if 0<s.parts then _ else _:List aZ).length<=2;split
     . rw[gy,e1,AA,List.length_append];exact⟨by omega,by omega⟩
     . exact⟨by show 0+_<=_;omega,Nat.zero_le _⟩
   . split
     . rename_i h0 h5;have hi:=h.idle h0;split
       . exact⟨by show 0+0<=_;omega,by show 1<=2;omega⟩
       . split
         . have h1:=Oc { s with ln:=Ln.next s.ln c } (Ln.text s.ln c);have h2:=Kr (s:={ s with ln:=Ln.next s.ln c }) (Ln.text s.ln c) hi;exact⟨by omega,by omega⟩
         . exact⟨by show 0+s.held<=_;omega,Nat.zero_le _⟩
     . split
       . exact⟨by show 0+0<=_;omega,by show 1<=2;omega⟩
       . split
         . exact⟨by show 0+0<=_;omega,by show 1<=2;omega⟩
         . exact⟨by show 0+s.held<=_;omega,Nat.zero_le _⟩
theorem iO {m:List UInt8}(hm:3<=m.length):∀(l:List UInt8) {s:St},Good m s->fE (outs m s l)+(fold m s l).held<=s.held+2*l.length∧(outs m s l).length<=2*l.length
 | [],_,_=>⟨by show 0+_<=_;simp[fold],Nat.zero_le _⟩
 | c :: t, s, h => by
   have h1:=Od h c;have h2:=iO hm t (h.next hm c);show fE ((next m s c).2++outs m (next m s c).1 t)+(fold m (next m s c).1 t).held<=_∧((next m s c).2++outs m (next m s c).1 t).length<=_;rw[gy,List.length_append,List.length_cons];exact⟨by omega,by omega⟩
end Go.Proofs.YtjmndjmhjleabaaGreatDoor.Fm
namespace Go.Proofs.YtjmndjmhjleabaaGreatDoor
namespace Fm
structure mR (e:aZ):Prop where
 method:e.method.size=0
 target:e.target.size=0
 fields:e.fields=[]
 aH:e.aH=[]
 dX:e.dX.size<=200
 dO:e.dO.size<=200
 ptype:e.ptype.size<=200
theorem AB (b:List UInt8):mR (dB b):=⟨rfl,rfl,rfl,rfl,Nat.zero_le _,Nat.zero_le _,Nat.zero_le _⟩
theorem kr (c:Nat):mR (NY c):=⟨rfl,rfl,rfl,rfl,Nat.zero_le _,Nat.zero_le _,Nat.zero_le _⟩
theorem DR (l:List UInt8):(safe l).length<=40:=by
 unfold safe named;split
 . decide
 . rw[List.length_take];omega
theorem get_mem {n:List UInt8}{ps:List Pm.lW}{v:List UInt8}(h:get n ps=some v):∃p∈ps,p.2=v:=by
 unfold get at h;obtain⟨p,hp,rfl⟩:=Option.map_eq_some_iff.1 h;exact⟨p,List.mem_of_find?_eq_some hp,rfl⟩
theorem Oe {ps:List Pm.lW}{f:List UInt8}(h:file ps=some f):f.length<=40:=by
 unfold file at h;split at h
 . obtain⟨x,_,rfl⟩:=Option.map_eq_some_iff.1 h;exact DR x
 . split at h
   . injection h with h;subst h;exact DR _
   . injection h with h;subst h;exact Nat.zero_le _
theorem Jp {vs:List (List UInt8)}{N:Nat}(h:∀v∈vs,v.length<=N):(one vs).1.length<=N:=by
 unfold one;split
 . exact Nat.zero_le _
 . exact h _ (by simp)
 . exact Nat.zero_le _
theorem DT {fs:List Rq.Fl}{n:List UInt8}{N:Nat}(h:∀f∈fs,f.2.length<=N):∀v∈Rq.vals fs n,v.length<=N:=fun v hv=>by
 unfold Rq.vals at hv;obtain⟨f,hf,rfl⟩:=List.mem_map.1 hv;exact h f (List.mem_filter.1 hf).1
theorem Og {fs:List Rq.Fl}{p:Rm}{N:Nat}(h:part fs=.inr p)(hf:∀f∈fs,f.2.length<=N):p.name.length<=N∧p.file.length<=40∧p.type.length<=N:=by
 have hd:=Jp (DT (n:=NW) hf);have ht:=Jp (DT (n:=nType) hf);unfold part jM at h;split at h
 . cases h
 . split at h
   . cases h
   . rename_i x hm;split at h
     . cases h
     . split at h
       . cases h
       . rename_i nm hn;split at h
         . cases h
         . rename_i f hfl;split at h
           . cases h
           . injection h with h;subst h;obtain⟨q,hq,e⟩:=get_mem hn;have:=(Pm.tX hm).2 q hq;exact⟨by show nm.length<=N;rw[<-e];omega,Oe hfl,ht⟩
theorem Kt {m:List UInt8}{s:St}(h:Good m s)(t:List UInt8):∀e∈(line s t).2,mR e:=by
 unfold line;split
 . split
   . intro e he;rw[List.mem_singleton.1 he];exact kr 8
   . split
     . intro e he;rw[List.mem_singleton.1 he];exact kr _
     . intro e he;cases he
 . split
   . intro e he;rw[List.mem_singleton.1 he];exact kr _
   . split
     . intro e he;rw[List.mem_singleton.1 he];exact kr 8
     . rename_i p hp _;have:=Og hp (fun f hf=>(h.short f hf).2);intro e he;rw[List.mem_singleton.1 he];refine⟨rfl,rfl,rfl,rfl,?_,?_,?_⟩
       . show p.name.toArray.size<=_;rw[List.size_toArray];omega
       . show p.file.toArray.size<=_;rw[List.size_toArray];omega
       . show p.type.toArray.size<=_;rw[List.size_toArray];omega
theorem Ku {m:List UInt8}{s:St}(h:Good m s)(c:UInt8):∀e∈(next m s c).2,mR e:=by
 unfold next;split
 . intro e he;cases he
 . split
   . show ∀e∈(if 0<s.parts then _ else _),mR e;split
     . intro e he;rcases List.mem_append.1 he with he | he
       . unfold iC at he;split at he
         . cases he
         . rw[List.mem_singleton.1 he];exact AB _
       . split at he
         . rw[List.mem_singleton.1 he];exact⟨rfl,rfl,rfl,rfl,Nat.zero_le _,Nat.zero_le _,Nat.zero_le _⟩
         . cases he
     . intro e he;cases he
   . split
     . rename_i h5;split
       . intro e he;rw[List.mem_singleton.1 he];exact kr _
       . rename_i hn;split
         . exact Kt (m:=m) (s:={ s with ln:=Ln.next s.ln c }) ⟨h.place,h.held,h.idle,Ln.o7 h.ln,by show(Ln.next s.ln c).code=0;omega,h.many,h.short,fun e=>absurd h5 e,h.parts,h.code⟩ _
         . intro e he;cases he
     . split
       . intro e he;rw[List.mem_singleton.1 he];exact kr _
       . split
         . intro e he;rw[List.mem_singleton.1 he];exact⟨rfl,rfl,rfl,rfl,Nat.zero_le _,Nat.zero_le _,Nat.zero_le _⟩
         . intro e he;cases he
theorem ko {m:List UInt8}(hm:3<=m.length):∀(l:List UInt8) {s:St},Good m s->∀e∈outs m s l,mR e
 | [],_,_=>fun e he=>by cases he
 | c :: t, s, h => fun e he => by
   rcases List.mem_append.1 he with he | he
   . exact Ku h c e he
   . exact ko hm t (h.next hm c) e he
theorem je {l:List aZ}(h:∀e∈l,mR e):∀e∈fP l,mR e:=Km AB l h
end Fm
end Go.Proofs.YtjmndjmhjleabaaGreatDoor
namespace Go.Proofs.YtjmndjmhjleabaaGreatDoor.Fm
theorem Kv (m:List UInt8){s:St}(hp:s.place=5)(hc:s.code=0)(c:UInt8):next m s c=if (Ln.next s.ln c).code≠0 then fails (Ln.next s.ln c).code else if Ln.ends s.ln c then line { s with ln:=Ln.next s.ln c } (Ln.text s.ln c) else ({ s with ln:=Ln.next s.ln c },[]):=by
 unfold next;rw[if_neg (fun h=>h ⟨hc,by omega⟩),if_neg (by omega),if_pos hp]
theorem DU {c:Nat}(h:c≠0):¬live (failed c):=fun k=>h k.1
theorem Kw:¬live done:=fun k=>k.2 rfl
theorem uV (t:Td)(l:List UInt8):tells t (iC l)=⟨t.es,t.bs++l⟩:=by
 unfold iC;split
 . rename_i h;subst h;rw[List.append_nil];rfl
 . show tell t (dB l)=_;unfold tell;rw[if_pos (show(dB l).kind=2 from rfl)];rfl
theorem Ky (m:List UInt8){s:St}(hp:s.place=1∨s.place=2∨s.place=3∨s.place=4)(hc:s.code=0)(c:UInt8):next m s c=if (turn s.place c).2≠0 then fails (turn s.place c).2 else if (turn s.place c).1=6 then (done,[WZ]) else ({ s with place:=(turn s.place c).1 },[]):=by
 unfold next;rw[if_neg (fun h=>h ⟨hc,by omega⟩),if_neg (by omega),if_neg (by omega)]
theorem Kz (p:Nat)(c:UInt8):(turn p c).1=6->(turn p c).2=0:=by
 unfold turn;repeat' split
 all_goals (intro h;first | rfl | (cases h;done))
theorem KA {s:St}{fs:List Rq.Fl}{p:Rm}(hp:part fs=.inr p)(h12:s.parts≠12):line { s with fields:=fs } []=({ s with fields:=[],parts:=s.parts+1,place:=0,held:=2,ahead:=2 },[Ji p]):=by
 unfold line;rw[if_neg (fun h=>h rfl)];simp only[hp];rw[if_neg h12]
theorem Oh {r:List UInt8}{c:Nat}(h:Pm.val r=.inl c):c≠0:=by
 unfold Pm.val at h;repeat' split at h
 all_goals (first | cases h;done | (injection h with h;omega))
theorem Oi {r:List UInt8}{c:Nat}(h:Pm.par r=.inl c):c≠0:=by
 unfold Pm.par at h;split at h
 . simp only[] at h;split at h
   . injection h with h;omega
   . split at h
     . split at h
       . rename_i hv;injection h with h;subst h;exact Oh hv
       . cases h
     . injection h with h;omega
 . injection h with h;omega
theorem AJ:∀(n:Nat) (r:List UInt8) (acc:List Pm.lW) (c:Nat),Pm.mO n r acc=.inl c->c≠0
 | 0,r,acc,c,h=>by rw[Pm.mO] at h;cases h
 | n + 1, r, acc, c, h => by
   rw[Pm.mO] at h;split at h
   . cases h
   . split at h
     . rename_i hp;injection h with h;subst h;exact Oi hp
     . split at h
       . injection h with h;omega
       . split at h
         . injection h with h;omega
         . exact AJ n _ _ c h
theorem xH {l:List UInt8}{c:Nat}(h:Pm.dI l=.inl c):c≠0:=by
 unfold Pm.dI at h;split at h
 . injection h with h;omega
 . split at h
   . rename_i hw;injection h with h;subst h;unfold Pm.Uv at hw;simp only[] at hw;repeat' split at hw
     all_goals (first | (injection hw with hw;omega) | (cases hw;done))
   . unfold Pm.fin at h;split at h
     . rename_i hp;injection h with h;subst h;exact AJ _ _ _ _ hp
     . cases h
theorem KC {fs:List Rq.Fl}{c:Nat}(h:part fs=.inl c):c≠0:=by
 unfold part jM at h;split at h
 . rename_i hd;injection h with h;subst h;exact hd
 . split at h
   . rename_i hm;injection h with h;subst h;exact xH hm
   . repeat' split at h
     all_goals (first | (injection h with h;omega) | (cases h;done))
theorem Gf (s:St)(t:List UInt8)(h:s.ahead<=2):(line s t).1.ahead<=2:=by
 unfold line;split
 . split
   . exact Nat.zero_le _
   . split
     . exact Nat.zero_le _
     . exact h
 . split
   . exact Nat.zero_le _
   . split
     . exact Nat.zero_le _
     . exact Nat.le_refl _
theorem Gg (m:List UInt8)(s:St)(c:UInt8)(h:s.ahead<=2):(next m s c).1.ahead<=2:=by
 unfold next;split
 . exact h
 . split
   . show s.ahead-_<=2;omega
   . split
     . split
       . exact Nat.zero_le _
       . split
         . exact Gf _ _ h
         . exact h
     . split
       . exact Nat.zero_le _
       . split
         . exact Nat.zero_le _
         . exact h
theorem xI (m:List UInt8):∀(l:List UInt8) (s:St),s.ahead<=2->(fold m s l).ahead<=2
 | [],_,h=>h
 | c::t,s,h=>xI m t _ (Gg m s c h)
theorem KD {m:List UInt8}(hm:3<=m.length){s:St}(h:Good m s)(l:List UInt8):(tells zJ (outs m s l)).es.length<=2*l.length∧(tells zJ (outs m s l)).bs.length<=s.held+2*l.length:=by
 obtain⟨h1,h2⟩:=iO hm l h;have h3:=(uS _ (qI m l s)).1;have h4:=mP (outs m s l);have h5:=Ar (outs m s l);rw[<-h3] at h4 h5;generalize tells zJ (outs m s l)=t at *;obtain⟨es,bs⟩:=t;unfold flush at h4 h5;simp only at *;rw[List.length_append] at h4;rw[gy,AA] at h5;exact⟨by omega,by omega⟩
theorem xJ (b:List UInt8)(h:b≠[])(hb:b.length<=70):(mark b).take 2=[13,10]∧5<=(mark b).length∧(mark b).length<=74:=by
 refine⟨rfl,?_,?_⟩
 . have:=List.length_pos_iff.2 h;show 5<=b.length+1+1+1+1;omega
 . show b.length+1+1+1+1<=74;omega
def dP (l:List aZ):Prop:=∃x∈l,x.kind=5
def rH (l:List aZ):Prop:=∀q e r,l=q++e::r->e.kind=2->dP q
theorem dP.left {a b:List aZ}(h:dP a):dP (a++b):=by obtain⟨x,hx,hk⟩:=h;exact⟨x,List.mem_append_left _ hx,hk⟩
theorem rH.nil:rH []:=fun q e r h=>by
 have:=congrArg List.length h;rw[List.length_append,List.length_cons,List.length_nil] at this;omega
theorem rH.snoc {q:List aZ}{e:aZ}(h:rH q)(he:e.kind=2->dP q):rH (q++[e]):=by
 intro q2 e2 r h2 hk;rcases List.eq_nil_or_concat r with rfl | ⟨r',x,rfl⟩
 . obtain⟨h3,h4⟩:=List.append_inj' h2 rfl;subst h3;injection h4 with h4;subst h4;exact he hk
 . rw[List.concat_eq_append,<-List.cons_append,<-List.append_assoc] at h2;obtain⟨h3,_⟩:=List.append_inj' h2 rfl;exact h q2 e2 r' h3 hk
theorem rH.front {a b:List aZ}(h:rH (a++b)):rH a:=fun q e r h2 hk=>h q e (r++b) (by rw[h2];simp) hk
theorem DV {l:List aZ}{e:aZ}(h:dP l∨e.kind=5):dP (nQ l e):=by
 by_cases hm:e.kind=2∧tailD l=true
 . obtain⟨q,x,rfl,hx⟩:=jB hm.2;rw[iq q x e hx hm.1];rcases h with ⟨y,hy,hk⟩ | h
   . rcases List.mem_append.1 hy with hy | hy
     . exact⟨y,List.mem_append_left _ hy,hk⟩
     . rw[List.mem_singleton.1 hy,hx] at hk;cases hk
   . rw[hm.1] at h;cases h
 . rw[gq l e (fun k=>by
    cases ht:tailD l
    . rfl
    . exact absurd ⟨k,ht⟩ hm)]
   rcases h with h | h
   . exact h.left
   . exact⟨e,by simp,h⟩
theorem DW:∀(n:Nat) (l:List aZ),l.length=n->rH l->rH (fP l)∧(dP l->dP (fP l))
 | 0,l,hn,_=>by rw[List.eq_nil_of_length_eq_zero hn];exact⟨rH.nil,fun h=>h⟩
 | n + 1, l, hn, h => by
   rcases List.eq_nil_or_concat l with rfl | ⟨q,x,rfl⟩
   . exact⟨rH.nil,fun h=>h⟩
   . rw[List.concat_eq_append] at hn h ⊢;obtain⟨i1,i2⟩:=DW n q (by simpa using hn) h.front;have hx:x.kind=2->dP q:=fun hk=>h q x [] rfl hk;rw[xB];refine⟨?_,fun hp=>DV ?_⟩
     . by_cases hm:x.kind=2∧tailD (fP q)=true
       . obtain⟨p,y,hpy,hy⟩:=jB hm.2;rw[hpy] at i1 ⊢;rw[iq p y x hy hm.1];exact i1.front.snoc (fun _=>i1 p y [] rfl hy)
       . rw[gq _ x (fun k=>by
          cases ht:tailD (fP q)
          . rfl
          . exact absurd ⟨k,ht⟩ hm)]
         exact i1.snoc (fun hk=>i2 (hx hk))
     . obtain⟨y,hy,hk⟩:=hp;rcases List.mem_append.1 hy with hy | hy
       . exact Or.inl (i2 ⟨y,hy,hk⟩)
       . rw[List.mem_singleton.1 hy] at hk;exact Or.inr hk
theorem rH.none_ {a b:List aZ}(h:rH a)(hb:∀e∈b,e.kind≠2):rH (a++b):=by
 induction b generalizing a with
 | nil=>rw[List.append_nil];exact h
 | cons e r ih =>
   have:=ih (h.snoc (e:=e) (fun k=>absurd k (hb e (List.mem_cons_self ..)))) (fun x hx=>hb x (List.mem_cons_of_mem _ hx));rw[List.append_assoc] at this;exact this
theorem rH.some_ {a b:List aZ}(h:rH a)(hp:dP a):rH (a++b):=by
 induction b generalizing a with
 | nil=>rw[List.append_nil];exact h
 | cons e r ih =>
   have:=ih (h.snoc (e:=e) (fun _=>hp)) hp.left;rw[List.append_assoc] at this;exact this
theorem Gh (s:St)(t:List UInt8):(∀e∈(line s t).2,e.kind≠2)∧(0<(line s t).1.parts->0<s.parts∨dP (line s t).2):=by
 unfold line;split
 . split
   . exact⟨fun e he=>by rw[List.mem_singleton.1 he];show(4:Int)≠2;decide,fun h=>absurd h (by decide)⟩
   . split
     . exact⟨fun e he=>by rw[List.mem_singleton.1 he];show(4:Int)≠2;decide,fun h=>absurd h (Nat.lt_irrefl 0)⟩
     . exact⟨(fun e he=>by cases he),fun h=>Or.inl h⟩
 . split
   . exact⟨fun e he=>by rw[List.mem_singleton.1 he];show(4:Int)≠2;decide,fun h=>absurd h (Nat.lt_irrefl 0)⟩
   . split
     . exact⟨fun e he=>by rw[List.mem_singleton.1 he];show(4:Int)≠2;decide,fun h=>absurd h (by decide)⟩
     . rename_i p _ _;exact⟨fun e he=>by rw[List.mem_singleton.1 he];show(5:Int)≠2;decide,fun _=>Or.inr ⟨Ji p,by simp,rfl⟩⟩
theorem Oj {m:List UInt8}{s:St}(c:UInt8){o:List aZ}(h:rH o)(hp:0<s.parts->dP o):rH (o++(next m s c).2)∧(0<(next m s c).1.parts->dP (o++(next m s c).2)):=by
 unfold next;split
 . exact⟨by rw[List.append_nil];exact h,fun k=>(hp k).left⟩
 . split
   . show rH (o++if 0<s.parts then _ else _)∧(0<s.parts->_);by_cases hq:0<s.parts
     . rw[if_pos hq];exact⟨h.some_ (hp hq),fun _=>(hp hq).left⟩
     . rw[if_neg hq];exact⟨by rw[List.append_nil];exact h,fun k=>absurd k hq⟩
   . split
     . split
       . exact⟨h.none_ (fun e he=>by rw[List.mem_singleton.1 he];show(4:Int)≠2;decide),fun k=>absurd k (Nat.lt_irrefl 0)⟩
       . split
         . obtain⟨k1,k2⟩:=Gh { s with ln:=Ln.next s.ln c } (Ln.text s.ln c);refine⟨h.none_ k1,fun k=>?_⟩;rcases k2 k with k | ⟨x,hx,hk⟩
           . exact(hp k).left
           . exact⟨x,List.mem_append_right _ hx,hk⟩
         . exact⟨by rw[List.append_nil];exact h,fun k=>(hp k).left⟩
     . split
       . exact⟨h.none_ (fun e he=>by rw[List.mem_singleton.1 he];show(4:Int)≠2;decide),fun k=>absurd k (Nat.lt_irrefl 0)⟩
       . split
         . exact⟨h.none_ (fun e he=>by rw[List.mem_singleton.1 he];show(3:Int)≠2;decide),fun k=>absurd k (Nat.lt_irrefl 0)⟩
         . exact⟨by rw[List.append_nil];exact h,fun k=>(hp k).left⟩
theorem DX (m:List UInt8):∀(l:List UInt8) (s:St) (o:List aZ),rH o->(0<s.parts->dP o)->rH (o++outs m s l)
 | [],_,o,h,_=>by show rH (o++[]);rw[List.append_nil];exact h
 | c :: t, s, o, h, hp => by
   obtain⟨h1,h2⟩:=Oj (m:=m) c h hp;have:=DX m t (next m s c).1 (o++(next m s c).2) h1 h2;rw[List.append_assoc] at this;exact this
theorem Ol (m l:List UInt8):rH (fP (outs m start l)):=(DW _ _ rfl (by have:=DX m l start [] rH.nil (fun h=>absurd h (by decide));simpa using this)).1
theorem rH.at_ {l:List aZ}(h:rH l){k:Nat}(hk:k<l.length)(h2:l[k].kind=2):dP (l.take k):=h (l.take k) l[k] (l.drop (k+1)) (by rw[<-List.drop_eq_getElem_cons hk,List.take_append_drop]) h2
structure Pt where
 name:ByteArray
 file:ByteArray
 type:ByteArray
 bytes:List UInt8
def laid (acc:List Pt)(e:aZ):List Pt:=if e.kind=5 then acc++[⟨e.dX,e.dO,e.ptype,e.aH⟩] else if e.kind=2 then acc.dropLast++(acc.getLast?.map fun p=>{ p with bytes:=e.bytes }).toList else acc
def jF (l:List aZ):List Pt:=l.foldl laid []
theorem AL (l:List aZ)(e:aZ):jF (l++[e])=laid (jF l) e:=by unfold jF;rw[List.foldl_append];rfl
theorem uW (acc:List Pt)(e:aZ):acc.length<=(laid acc e).length∧(laid acc e).length<=acc.length+1:=by
 unfold laid;split
 . simp
 . split
   . rcases List.eq_nil_or_concat acc with rfl | ⟨q,x,rfl⟩
     . simp
     . rw[List.concat_eq_append,List.dropLast_concat,List.getLast?_append];simp
   . simp
theorem AO:∀(n:Nat) (l:List aZ),l.length=n->dP l->0<(jF l).length
 | 0,l,hn,⟨x,hx,_⟩=>by rw[List.eq_nil_of_length_eq_zero hn] at hx;cases hx
 | n + 1, l, hn, h => by
   rcases List.eq_nil_or_concat l with rfl | ⟨q,x,rfl⟩
   . obtain⟨_,hx,_⟩:=h;cases hx
   . rw[List.concat_eq_append] at hn h ⊢;rw[AL];obtain⟨y,hy,hk⟩:=h;rcases List.mem_append.1 hy with hy | hy
     . have:=AO n q (by simpa using hn) ⟨y,hy,hk⟩;have:=(uW (jF q) x).1;omega
     . rw[List.mem_singleton.1 hy] at hk;unfold laid;rw[if_pos hk];simp
theorem uX (l:List aZ):(jF l).length<=l.length:=by
 have:∀(m:List aZ) (o:List Pt),(m.foldl laid o).length<=o.length+m.length:=by
  intro m;induction m with
  | nil=>intro o;simp
  | cons e r ih=>intro o;rw[List.foldl_cons];have h1:=ih (laid o e);have h2:=(uW o e).2;simp only[List.length_cons];omega
 have h:=this l [];simpa[jF] using h
end Go.Proofs.YtjmndjmhjleabaaGreatDoor.Fm
namespace Go.Proofs.YtjmndjmhjleabaaGreatDoor.Gt
open Sr
def txt (l:List UInt8):ByteArray:=⟨l.toArray⟩
def iH (l:List Rq.Fl):List (ByteArray×ByteArray):=l.map fun p=>(txt p.1,txt p.2)
abbrev qY:=Nat×List (ByteArray×ByteArray)×List UInt8
def Gi:List UInt8:=[98,111,117,110,100,97,114,121]
def Jq:List UInt8:=[109,117,108,116,105,112,97,114,116,47,102,111,114,109,45,100,97,116,97]
def Tq:ByteArray:=⟨#[47,102,111,114,109]⟩
def Ao:ByteArray:=⟨#[80,79,83,84]⟩
def Gj:ByteArray:=⟨#[80,65,84,67,72]⟩
def uR:List UInt8:=[102,105,108,101,110,97,109,101,32]
def BL (t:ByteArray):Bool:=decide (7<=t.size)&&decide (t.data.toList.take 7=Tu.fD.data.toList)
def ours (t:ByteArray):Bool:=decide (t=Tu.lS)||BL t
def bound (l:List (ByteArray×ByteArray)):Option (List UInt8) :=
 if (Tu.one (Tu.vals Tu.FM l)).2≠0 then none
 else match Pm.dI (Tu.one (Tu.vals Tu.FM l)).1 with
  | .inl _=>none
  | .inr x=>if x.1≠Jq then none else Fm.get Gi x.2
def parts (b body:List UInt8):Option (List Fm.Pt) :=
 if Fm.fF b=true∧Fm.close (Fm.fold (Fm.mark b) Fm.start body)=0 then some (Fm.jF (fP (Fm.outs (Fm.mark b) Fm.start body))) else none
def room (ps:List Fm.Pt):Nat:=(ps.map fun p=>p.bytes.length+200).sum
def jo (s:Sh)(ids:List Int):Sh:=ids.foldl (fun s i=>(Sr.drop s i).1) s
def stat (c:Nat):Nat:=if c=4 then 413 else 507
def toldOf (id:Int)(f:ByteArray):List UInt8:=Ch.bY 8 id.toNat++[32]++f.data.toList++[10]
def bG (p:Fm.Pt):ByteArray:=txt (uR++p.file.data.toList)
def lands (s:Sh)(made:List Int)(told:List UInt8):List Fm.Pt->Sh×qY
 | []=>(Sr.sync s,(201,[],told))
 | p :: r =>
   if p.file.size=0 then lands s made told r
   else if (Sr.create s p.bytes.length (bG p)).2≠0 then (Sr.sync (jo s made),(stat (Sr.create s p.bytes.length (bG p)).2,[],[]))
   else if (Sr.append (Sr.create s p.bytes.length (bG p)).1 (s.h.last+1) 0 p.bytes).2≠0 then
    (Sr.sync (jo (Sr.drop (Sr.create s p.bytes.length (bG p)).1 (s.h.last+1)).1 made),(stat (Sr.append (Sr.create s p.bytes.length (bG p)).1 (s.h.last+1) 0 p.bytes).2,[],[]))
   else lands (Sr.append (Sr.create s p.bytes.length (bG p)).1 (s.h.last+1) 0 p.bytes).1 (made++[s.h.last+1]) (told++toldOf (s.h.last+1) p.file) r
def land (s:Sh)(l:List (ByteArray×ByteArray))(body:List UInt8):Sh×qY:=match bound l with
 | none=>(s,(415,[],[]))
 | some b => match parts b body with
   | none=>(s,(400,[],[]))
   | some ps=>if 100000<s.log.length+room ps then (s,(507,[],[])) else lands s [] [] ps
abbrev W9:=Sh->ByteArray->ByteArray->List (ByteArray×ByteArray)->List UInt8->Sh×Tu.qY
section
variable (T:W9)
def answer (s:Sh)(m t:ByteArray)(l:List (ByteArray×ByteArray))(body:List UInt8):Sh×qY :=
 if ours t=true then ((T s m t l body).1,((T s m t l body).2.1,(T s m t l body).2.2,[]))
 else if t≠Tq then (s,(404,[],[]))
 else if m≠Ao then (s,(405,[],[]))
 else land s l body
def over (s:Sh)(h:Rq.Hd)(body:List UInt8):Sh×qY:=answer T s (txt h.method) (txt h.target) (iH h.fields) body
def textOf (r:qY):List UInt8:=(Rp.text (r.1:Int) r.2.1 (Tu.vals ⟨#[99,111,110,116,101,110,116,45,108,101,110,103,116,104]⟩ r.2.1).length r.2.2).1
def lC (c:Nat):qY:=(if c=4 then 413 else 400,[],[])
/-! ### events -/
structure Gs where
 s:Sh
 hd:Rq.Hd
 body:List UInt8
 out:List UInt8
def ev (g:Gs):Rq.Ev->Gs
 | .head h=>{ g with hd:=h }
 | .body b=>{ g with body:=g.body++b }
 | .fin=>{ s:=(over T g.s g.hd g.body).1,hd:=Rq.hd0,body:=[],out:=g.out++textOf (over T g.s g.hd g.body).2 }
 | .fail c=>{ s:=g.s,hd:=Rq.hd0,body:=[],out:=g.out++textOf (lC c) }
def evs (g:Gs)(l:List Rq.Ev):Gs:=l.foldl (ev T) g
theorem kL (g:Gs)(e:Rq.Ev)(l:List Rq.Ev):evs T g (e::l)=evs T (ev T g e) l:=rfl
theorem xK (g:Gs)(a b:List Rq.Ev):evs T g (a++b)=evs T (evs T g a) b:=by unfold evs;rw[List.foldl_append]
theorem UF (g:Gs)(a b:List UInt8):ev T (ev T g (.body a)) (.body b)=ev T g (.body (a++b)):=by
 show(⟨g.s,g.hd,(g.body++a)++b,g.out⟩:Gs)=⟨g.s,g.hd,g.body++(a++b),g.out⟩;rw[List.append_assoc]
theorem oh:∀(l:List Rq.Ev) (g:Gs),evs T g (Rq.join l)=evs T g l
 | [],_=>rfl
 | .head h::r,g=>oh r (ev T g (.head h))
 | .fin::r,g=>oh r (ev T g .fin)
 | .fail c::r,g=>oh r (ev T g (.fail c))
 | .body a :: r, g => by
   have ih:=oh r (ev T g (.body a));rw[kL T g (.body a) r,<-ih];show evs T g (match Rq.join r with
    | .body b::q=>.body (a++b)::q
    | q=>.body a::q)=_
   cases hq:Rq.join r with
   | nil=>rfl
   | cons e q =>
     cases e with
     | body b=>rw[kL,kL,UF]
     | head _=>rfl
     | fin=>rfl
     | fail _=>rfl
theorem Om (g:Gs)(o:List UInt8)(e:Rq.Ev):ev T { g with out:=o++g.out } e={ ev T g e with out:=o++(ev T g e).out }:=by
 cases e with
 | head h=>rfl
 | body b=>rfl
 | fin=>simp only[ev,List.append_assoc]
 | fail c=>simp only[ev,List.append_assoc]
theorem Jr:∀(l:List Rq.Ev) (g:Gs) (o:List UInt8),evs T { g with out:=o++g.out } l={ evs T g l with out:=o++(evs T g l).out }
 | [],_,_=>rfl
 | e :: r, g, o => by
   rw[kL,kL,Om];exact Jr r (ev T g e) o
/-! ### a connection -/
structure Cn where
 rq:Rq.St
 hd:Rq.Hd
 body:List UInt8
def mV:Cn:=⟨Rq.start,Rq.hd0,[]⟩
def at_ (s:Sh)(c:Cn):Gs:=⟨s,c.hd,c.body,[]⟩
def xL (s:Sh)(c:Cn)(b:List UInt8):Gs:=evs T (at_ s c) (Rq.outs c.rq b)
def feed (s:Sh)(c:Cn)(b:List UInt8):Sh×Cn×List UInt8:=((xL T s c b).s,⟨Rq.fold c.rq b,(xL T s c b).hd,(xL T s c b).body⟩,(xL T s c b).out)
theorem Oo (s:Sh)(c:Cn):feed T s c []=(s,c,[]):=rfl
theorem uY (s:Sh)(c:Cn)(a b:List UInt8):feed T s c (a++b)=((feed T (feed T s c a).1 (feed T s c a).2.1 b).1,(feed T (feed T s c a).1 (feed T s c a).2.1 b).2.1,(feed T s c a).2.2++(feed T (feed T s c a).1 (feed T s c a).2.1 b).2.2):=by
 have hg:xL T s c (a++b)={ xL T (feed T s c a).1 (feed T s c a).2.1 b with out:=(xL T s c a).out++(xL T (feed T s c a).1 (feed T s c a).2.1 b).out }:=by
  unfold xL;rw[Rq.fq,xK];have:=Jr T (Rq.outs (Rq.fold c.rq a) b) (at_ (feed T s c a).1 (feed T s c a).2.1) (evs T (at_ s c) (Rq.outs c.rq a)).out;rw[show({ at_ (feed T s c a).1 (feed T s c a).2.1 with out:=(evs T (at_ s c) (Rq.outs c.rq a)).out++(at_ (feed T s c a).1 (feed T s c a).2.1).out }:Gs)=evs T (at_ s c) (Rq.outs c.rq a) from by
   show(⟨_,_,_,_++[]⟩:Gs)=_;rw[List.append_nil];rfl] at this
  exact this
 unfold feed;rw[hg,Rq.eZ];rfl
def feeds (s:Sh)(c:Cn):List (List UInt8)->Sh×Cn×List UInt8
 | []=>(s,c,[])
 | b::r=>((feeds (feed T s c b).1 (feed T s c b).2.1 r).1,(feeds (feed T s c b).1 (feed T s c b).2.1 r).2.1,(feed T s c b).2.2++(feeds (feed T s c b).1 (feed T s c b).2.1 r).2.2)
theorem kM:∀(l:List (List UInt8)) (s:Sh) (c:Cn),feeds T s c l=feed T s c l.flatten
 | [],s,c=>(Oo T s c).symm
 | b :: r, s, c => by
   rw[List.flatten_cons,uY];unfold feeds;rw[kM r]
/-! ### what holds of it -/
theorem mW:∀(ids:List Int) {s:Sh},Sr.Ok s->Sr.Ok (jo s ids)
 | [],_,h=>h
 | i::r,_,h=>mW r (h.drop i)
theorem xM:∀(ps:List Fm.Pt) {s:Sh} (made:List Int) (told:List UInt8),Sr.Ok s->Sr.Ok (lands s made told ps).1
 | [],_,_,_,h=>h.sync
 | p :: r, s, made, told, h => by
   unfold lands;split
   . exact xM r made told h
   . split
     . exact(mW made h).sync
     . split
       . exact(mW made ((h.create _ _).drop _)).sync
       . exact xM r _ _ ((h.create _ _).append _ _ _)
theorem Rw {s:Sh}(h:Sr.Ok s)(l:List (ByteArray×ByteArray))(body:List UInt8):Sr.Ok (land s l body).1:=by
 unfold land;split
 . exact h
 . split
   . exact h
   . split
     . exact h
     . exact xM _ _ _ h
theorem KE (hT:∀{s:Sh},Sr.Ok s->∀m t l body,Sr.Ok (T s m t l body).1){s:Sh}(h:Sr.Ok s)(m t:ByteArray)(l:List (ByteArray×ByteArray))(body:List UInt8):Sr.Ok (answer T s m t l body).1:=by
 unfold answer;split
 . exact hT h _ _ _ _
 . split
   . exact h
   . split
     . exact h
     . exact Rw h l body
theorem Oq (hT:∀{s:Sh},Sr.Ok s->∀m t l body,Sr.Ok (T s m t l body).1){g:Gs}(h:Sr.Ok g.s)(e:Rq.Ev):Sr.Ok (ev T g e).s:=by
 cases e with
 | head _=>exact h
 | body _=>exact h
 | fin=>exact KE T hT h _ _ _ _
 | fail _=>exact h
theorem Ot (hT:∀{s:Sh},Sr.Ok s->∀m t l body,Sr.Ok (T s m t l body).1):∀(l:List Rq.Ev) {g:Gs},Sr.Ok g.s->Sr.Ok (evs T g l).s
 | [],_,h=>h
 | e::r,_,h=>Ot hT r (Oq T hT h e)
theorem Rx (hT:∀{s:Sh},Sr.Ok s->∀m t l body,Sr.Ok (T s m t l body).1){s:Sh}(h:Sr.Ok s)(c:Cn)(b:List UInt8):Sr.Ok (feed T s c b).1:=Ot T hT (g:=at_ s c) _ h
end
section
end
structure Small (r:qY):Prop where
 few:r.2.1.length<=5
 fields:∀p∈r.2.1,p.1.size<=2000∧p.2.size<=2000
 body:r.2.2.length<=2000
theorem Small.bare (st:Nat):Small (st,[],[]):=⟨Nat.zero_le _,fun p hp=>by simp at hp,Nat.zero_le _⟩
def FS (r:Tu.qY):Prop:=r.2.length<=5∧∀p∈r.2,p.1.size<=2000∧p.2.size<=2000
theorem rX (n:Nat):(Tu.dec n).size<=9:=by
 unfold Tu.dec;show(Ch.bY 8 n).toArray.size<=_;rw[List.size_toArray];exact(Ch.dA 8 n).1
theorem wL (st:Nat)(l:List (ByteArray×ByteArray))(hl:l.length<=4)(h:∀p∈l,p.1.size<=2000∧p.2.size<=2000):FS (Tu.said st l):=by
 refine⟨by show l.length+1<=5;omega,fun p hp=>?_⟩;rcases List.mem_cons.1 hp with rfl | hp
 . exact⟨by decide,by decide⟩
 . exact h p hp
theorem gM (st:Nat):FS (Tu.said st []):=wL st [] (Nat.zero_le _) (fun p hp=>by cases hp)
theorem Gv (st:Nat)(a b:ByteArray)(ha:a.size<=2000)(hb:b.size<=2000):FS (Tu.said st [(a,b)]):=wL st _ (by show(1:Nat)<=4;omega) (fun p hp=>by
 rw[List.mem_singleton.1 hp];exact⟨ha,hb⟩)
theorem RJ (s:Sh)(m:ByteArray)(l:List (ByteArray×ByteArray)):FS (Tu.post s m l).2:=by
 unfold Tu.post;repeat' split
 all_goals first
  | exact gM _
  | exact Gv _ _ _ (by decide) (by rw[ByteArray.size_append];have:=rX (s.h.last+1).toNat;have:Tu.fD.size=7:=rfl;omega)
theorem OG (s:Sh)(u:Sp.Up)(l:List (ByteArray×ByteArray))(body:List UInt8):FS (Tu.patch s u l body).2:=by
 unfold Tu.patch;split
 . exact gM _
 . split
   . exact gM _
   . split
     . exact gM _
     . split
       . exact gM _
       . split
         . exact gM _
         . split
           . exact gM _
           . split
             . exact gM _
             . split
               . exact gM _
               . exact Gv _ _ _ (by decide) (by have:=rX (u.bytes.length+body.length);omega)
theorem RL (u:Sp.Up)(h:u.note.size<=100):FS (Tu.head u):=by
 unfold Tu.head;refine wL 200 _ ?_ (fun p hp=>?_)
 . simp only[List.length_cons];split <;> simp
 . rcases List.mem_cons.1 hp with rfl | hp
   . exact⟨show Tu.nK.size<=2000 by decide,by have:=rX u.bytes.length;show(Tu.dec u.bytes.length).size<=_;omega⟩
   . rcases List.mem_cons.1 hp with rfl | hp
     . split
       . exact⟨by decide,by decide⟩
       . exact⟨show Tu.xk.size<=2000 by decide,by have:=rX u.size.toNat;show(Tu.dec u.size.toNat).size<=_;omega⟩
     . rcases List.mem_cons.1 hp with rfl | hp
       . exact⟨by decide,by decide⟩
       . split at hp
         . cases hp
         . rw[List.mem_singleton.1 hp];exact⟨show Tu.FN.size<=2000 by decide,by show u.note.size<=_;omega⟩
theorem OH {s:Sh}(ok:Sr.Ok s)(m t:ByteArray)(l:List (ByteArray×ByteArray))(body:List UInt8):FS (Tu.aO s m t l body).2:=by
 unfold Tu.aO;split
 . exact wL _ _ (by decide) (by decide)
 . split
   . exact gM _
   . split
     . exact Gv _ _ _ (by decide) (by decide)
     . split
       . exact RJ s m l
       . split
         . exact gM _
         . rename_i u hu;unfold Tu.KT;split
           . exact RL u (ok.h.all u (Tu.xw hu).1).note
           . split
             . exact gM _
             . split
               . exact OG s u l body
               . exact gM _
theorem yj {s:Sh}{z:Int}{m:ByteArray}(h:(Sr.create s z m).2=0):(Sr.create s z m).1.h.l.length=s.h.l.length+1∧m.size<=100:=by
 unfold Sr.create Sr.write at h ⊢;split
 . rename_i h1;rw[if_pos h1] at h;exact absurd h h1
 . rename_i h1;rw[if_neg h1] at h;split
   . rename_i h2;rw[if_pos h2] at h;exact absurd h (by simp)
   . rename_i h2;rw[if_neg h2] at h;split
     . rename_i h3;rw[if_pos h3] at h;exact absurd h (by simp)
     . clear h h2;show(Sr.made s.h z m).1.l.length=_∧_;unfold Sr.made Sp.create at h1 ⊢;split
       . rename_i h3;rw[if_pos h3] at h1;exact absurd (by simp) h1
       . rename_i h3;rw[if_neg h3] at h1;split
         . rename_i h4;rw[if_pos h4] at h1;exact absurd (by simp) h1
         . rename_i h4;rw[if_neg h4] at h1;split
           . rename_i h5;rw[if_pos h5] at h1;exact absurd (by simp) h1
           . rename_i h5;rw[if_neg h5] at h1;split
             . rename_i h6;rw[if_pos h6] at h1;exact absurd (by simp) h1
             . exact⟨by simp,by omega⟩
theorem El (s:Sh)(id off:Int)(b:List UInt8):(Sr.append s id off b).1.h.l.length=s.h.l.length:=by
 have h0:(Sp.append s.h id off b).1.l.length=s.h.l.length:=by
  unfold Sp.append Sp.iN;split
  . rfl
  . split
    . rfl
    . simp only[];repeat' split
      all_goals first
       | rfl
       | (show(List.set _ _ _).length=_;rw[List.length_set])
 unfold Sr.append Sr.write;repeat' split
 all_goals first
  | rfl
  | exact h0
theorem yt (id:Int)(f:ByteArray):(toldOf id f).length<=11+f.size:=by
 unfold toldOf;have:=(Ch.dA 8 id.toNat).1;have hf:f.data.toList.length=f.size:=by rw[Array.length_toList];rfl
 simp only[List.length_append,List.length_cons,List.length_nil];omega
theorem oz:∀(ps:List Fm.Pt) {s:Sh} (made:List Int) (told:List UInt8),Sr.Ok s->told.length<=120*s.h.l.length->Small (lands s made told ps).2
 | [],s,_,told,ok,h=>⟨Nat.zero_le _,(fun p hp=>by cases hp),(by have:=ok.h.few;show told.length<=_;omega)⟩
 | p :: r, s, made, told, ok, h => by
   unfold lands;split
   . exact oz r made told ok h
   . split
     . exact Small.bare _
     . rename_i h2;split
       . exact Small.bare _
       . have hc:(Sr.create s p.bytes.length (bG p)).2=0:=by
          rcases Nat.eq_zero_or_pos (Sr.create s p.bytes.length (bG p)).2 with e | e
          . exact e
          . exact absurd (by omega) h2
         obtain⟨c1,c2⟩:=yj hc;refine oz r _ _ ((ok.create _ _).append _ _ _) ?_;rw[El,c1,List.length_append];have hz:(bG p).size=9+p.file.size:=by
          show(uR++p.file.data.toList).toArray.size=_;rw[List.size_toArray,List.length_append,Array.length_toList];rfl
         have:=yt (s.h.last+1) p.file;omega
theorem Gw {s:Sh}(ok:Sr.Ok s)(l:List (ByteArray×ByteArray))(body:List UInt8):Small (land s l body).2:=by
 unfold land;split
 . exact Small.bare _
 . split
   . exact Small.bare _
   . split
     . exact Small.bare _
     . exact oz _ _ _ ok (Nat.zero_le _)
theorem rY {s:Sh}(ok:Sr.Ok s)(m t:ByteArray)(l:List (ByteArray×ByteArray))(body:List UInt8):Small (answer Tu.aO s m t l body).2:=by
 unfold answer;split
 . exact⟨(OH ok m t l body).1,(OH ok m t l body).2,Nat.zero_le _⟩
 . split
   . exact Small.bare _
   . split
     . exact Small.bare _
     . exact Gw ok l body
/-! ### texts -/
theorem OI (p:ByteArray×ByteArray):(Rp.jA p).length<=202:=by
 unfold Rp.jA;rw[List.length_append];have:(Fd.text p.1.data.toList p.2.data.toList).1.length<=200:=by
  unfold Fd.text;repeat' split
  all_goals first
   | exact Nat.zero_le _
   | (simp only[List.length_append,List.length_cons,List.length_nil];omega)
 simp only[List.length_cons,List.length_nil];omega
theorem AR:∀l:List (ByteArray×ByteArray),(l.flatMap Rp.jA).length<=202*l.length
 | []=>Nat.zero_le _
 | p :: r => by
   rw[List.flatMap_cons,List.length_append,List.length_cons];have:=OI p;have:=AR r;omega
theorem OJ (st:Int)(l:List (ByteArray×ByteArray))(nv:Nat)(body:List UInt8):(Rp.text st l nv body).1.length<=4000+body.length:=by
 unfold Rp.text;split
 . exact Nat.zero_le _
 . split
   . exact Nat.zero_le _
   . split
     . exact Nat.zero_le _
     . split
       . exact Nat.zero_le _
       . have h1:=AR l;have h2:=Rp.Dq st;have h3:=(Ch.dA 8 st.toNat).1;have h4:=(Ch.dA 8 body.length).1;have h5:Rp.h11.length=9:=rfl;have h6:Rp.cl.length=16:=rfl;simp only[Rp.first,List.length_append,List.length_cons,List.length_nil];omega
theorem yu {r:qY}(h:Small r):(textOf r).length<=6000:=by
 unfold textOf;have:=OJ (r.1:Int) r.2.1 (Tu.vals ⟨#[99,111,110,116,101,110,116,45,108,101,110,103,116,104]⟩ r.2.1).length r.2.2;have:=h.body;omega
theorem qx (c:Nat):Small (lC c):=Small.bare _
/-! ### a connection -/
structure rZ (c:Cn):Prop where
 rq:Rq.Good c.rq
 hd:Rq.jE c.hd
theorem yw:Rq.jE Rq.hd0:=⟨Nat.zero_le _,Nat.zero_le _,Nat.zero_le _,Nat.zero_le _,fun f hf=>by cases hf⟩
theorem rZ.new:rZ mV:=⟨Rq.Good.start,yw⟩
section
variable (T:W9)
theorem Tw {g:Gs}{e:Rq.Ev}(h:Rq.jE g.hd)(he:e.mR):Rq.jE (ev T g e).hd:=by
 cases e with
 | head x=>exact he
 | body b=>exact h
 | fin=>exact yw
 | fail c=>exact yw
theorem OL:∀(l:List Rq.Ev) {g:Gs},Rq.jE g.hd->(∀e∈l,e.mR)->Rq.jE (evs T g l).hd
 | [],_,h,_=>h
 | e::r,_,h,he=>OL r (Tw T h (he e (by simp))) (fun x hx=>he x (by simp[hx]))
theorem yx:∀(l:List Rq.Ev) (g:Gs),(evs T g l).body.length<=g.body.length+Rq.bV l
 | [],_=>Nat.le_refl _
 | e :: r, g => by
   have h:=yx r (ev T g e);rw[kL];cases e with
   | head x=>exact h
   | body b =>
     have h1:(ev T g (.body b)).body.length=g.body.length+b.length:=List.length_append;show _<=_+(b.length+Rq.bV r);omega
   | fin =>
     have h1:(ev T g .fin).body.length=0:=rfl;show _<=_+Rq.bV r;omega
   | fail c =>
     have h1:(ev T g (.fail c)).body.length=0:=rfl;show _<=_+Rq.bV r;omega
theorem RN {c:Cn}(h:rZ c)(s:Sh)(b:List UInt8):rZ (feed T s c b).2.1:=⟨h.rq.fold b,OL T _ (g:=at_ s c) h.hd (Rq.ko b h.rq)⟩
theorem KU (s:Sh)(c:Cn)(b:List UInt8):(feed T s c b).2.1.body.length<=c.body.length+b.length:=by
 have h1:=yx T (Rq.outs c.rq b) (at_ s c);have h2:=(Rq.iO b c.rq).2.1;show(evs T (at_ s c) (Rq.outs c.rq b)).body.length<=_;have h3:(at_ s c).body=c.body:=rfl;rw[h3] at h1;omega
end
theorem Gx {g:Gs}(ok:Sr.Ok g.s)(e:Rq.Ev):(ev Tu.aO g e).out.length<=g.out.length+6000:=by
 cases e with
 | head x=>exact Nat.le_add_right _ _
 | body b=>exact Nat.le_add_right _ _
 | fin =>
   show(g.out++textOf _).length<=_;rw[List.length_append];have:=yu (rY ok (txt g.hd.method) (txt g.hd.target) (iH g.hd.fields) g.body);unfold over;omega
 | fail c =>
   show(g.out++textOf _).length<=_;rw[List.length_append];have:=yu (qx c);omega
theorem oC:∀(l:List Rq.Ev) {g:Gs},Sr.Ok g.s->(evs Tu.aO g l).out.length<=g.out.length+6000*l.length
 | [],_,_=>by simp[evs]
 | e :: r, g, ok => by
   have h1:=Gx ok e;have h2:=oC r (Oq Tu.aO (fun h m t l b=>Tu.JA h m t l b) ok e);rw[kL,List.length_cons];omega
end Go.Proofs.YtjmndjmhjleabaaGreatDoor.Gt
namespace Go.Proofs.YtjmndjmhjleabaaGreatDoor.Fm
theorem tail_at {l:List UInt8}{p:Nat}(hp:p<=l.length)(h1:∀j (hj:j<l.length),p<=j->stroke l[j]=false)(h2:p=0∨∃h:p-1<l.length,0<p∧stroke l[p-1]=true):tail l=l.drop p:=by
 have e:l.reverse=(l.drop p).reverse++(l.take p).reverse:=by rw[<-List.reverse_append,List.take_append_drop]
 have ha:∀c∈(l.drop p).reverse,(!stroke c)=true:=by
  intro c hc;rw[List.mem_reverse] at hc;obtain⟨j,hj,rfl⟩:=List.getElem_of_mem hc;rw[List.length_drop] at hj;rw[List.getElem_drop,h1 (p+j) (by omega) (by omega)];rfl
 have hb:(l.take p).reverse.takeWhile (fun c=>!stroke c)=[]:=by
  rcases h2 with rfl | ⟨h,h0,hs⟩
  . rfl
  . obtain⟨q,rfl⟩:∃q,p=q+1:=⟨p-1,by omega⟩;have hq:q<l.length:=by simpa using h
    have hs':stroke l[q]=true:=by simpa using hs
    rw[List.take_succ_eq_append_getElem hq,List.reverse_append];show(l[q]::(l.take q).reverse).takeWhile _=[];rw[List.takeWhile_cons,hs'];rfl
 unfold tail;rw[e,List.takeWhile_append_of_pos ha,hb,List.append_nil,List.reverse_reverse]
theorem G6 {c:UInt8}(h:dirty c=false):rD c=c:=by unfold rD;rw[h];rfl
def iy (k:Nat)(l:List UInt8):List UInt8:=(l.take k).map rD++l.drop k
theorem lU (k:Nat)(l:List UInt8):(iy k l).length=l.length:=by
 unfold iy;rw[List.length_append,List.length_map,<-List.length_append,List.take_append_drop]
theorem EG (l:List UInt8):iy 0 l=l:=rfl
theorem G7 (l:List UInt8):iy l.length l=l.map rD:=by unfold iy;rw[List.take_length,List.drop_length,List.append_nil]
theorem Li {k:Nat}{l:List UInt8}(h:k<l.length):(iy k l)[k]'(by rw[lU];exact h)=l[k]:=by
 unfold iy;rw[List.getElem_append_right (by rw[List.length_map,List.length_take];omega)];simp[List.getElem_drop,Nat.min_eq_left (Nat.le_of_lt h)]
theorem EH {k:Nat}{l:List UInt8}(h:k<l.length):iy (k+1) l=(iy k l).set k (rD l[k]):=by
 unfold iy;rw[List.take_succ_eq_append_getElem h,List.map_append,List.drop_eq_getElem_cons h,List.set_append_right _ _ (by rw[List.length_map,List.length_take];omega)];rw[List.length_map,List.length_take,Nat.min_eq_left (Nat.le_of_lt h),Nat.sub_self];simp;rw[List.drop_eq_getElem_cons h];rfl
theorem EI {k:Nat}{l:List UInt8}(h:k<l.length)(hd:dirty l[k]=false):iy (k+1) l=iy k l:=by
 unfold iy;rw[List.take_succ_eq_append_getElem h,List.map_append,List.drop_eq_getElem_cons h];simp[G6 hd]
theorem EK {c:UInt8}{t:List UInt8}(h:c≠37):dec (c::t)=(dec t).map (c::·):=by rw[dec.eq_def];simp only[];rw[if_neg h]
theorem JM {a b:UInt8}{r:List UInt8}(ha:0<=Ch.hex a.toNat)(hb:0<=Ch.hex b.toNat):dec (37::a::b::r)=(dec r).map ((16*Ch.hex a.toNat+Ch.hex b.toNat).toNat.toUInt8::·):=by
 rw[dec.eq_def];simp only[];rw[if_pos trivial,if_pos ⟨ha,hb⟩]
theorem JN {a b:UInt8}{r:List UInt8}(h:¬(0<=Ch.hex a.toNat∧0<=Ch.hex b.toNat)):dec (37::a::b::r)=none:=by
 rw[dec.eq_def];simp only[];rw[if_pos trivial,if_neg h]
theorem uD {t:List UInt8}(h:t.length<2):dec (37::t)=none:=by
 match t,h with
 | [],_=>rw[dec.eq_def];simp only[];rw[if_pos trivial]
 | [_],_=>rw[dec.eq_def];simp only[];rw[if_pos trivial]
 | _::_::_,h=>simp at h;omega
def decs (bs r:List UInt8):Option (List UInt8):=(dec r).map (bs++·)
theorem O5 (bs:List UInt8):decs bs []=some bs:=by unfold decs;rw[dec];simp
theorem Ll {bs:List UInt8}{c:UInt8}{t:List UInt8}(h:c≠37):decs bs (c::t)=decs (bs++[c]) t:=by
 unfold decs;rw[EK h,Option.map_map];congr 1;funext x;simp
theorem O6 {bs:List UInt8}{a b:UInt8}{r:List UInt8}(ha:0<=Ch.hex a.toNat)(hb:0<=Ch.hex b.toNat):decs bs (37::a::b::r)=decs (bs++[(16*Ch.hex a.toNat+Ch.hex b.toNat).toNat.toUInt8]) r:=by
 unfold decs;rw[JM ha hb,Option.map_map];congr 1;funext x;simp
theorem O7 {bs:List UInt8}{a b:UInt8}{r:List UInt8}(h:¬(0<=Ch.hex a.toNat∧0<=Ch.hex b.toNat)):decs bs (37::a::b::r)=none:=by unfold decs;rw[JN h];rfl
theorem G8 {bs t:List UInt8}(h:t.length<2):decs bs (37::t)=none:=by unfold decs;rw[uD h];rfl
theorem G9 (r:List UInt8):decs [] r=dec r:=by unfold decs;simp
theorem He (a b:UInt8):Ch.number 16 6 [a,b]=if 0<=Ch.hex a.toNat∧0<=Ch.hex b.toNat then (16*Ch.hex a.toNat+Ch.hex b.toNat,true) else (0,false):=by
 have h6:¬(6:Int)<(([a,b]:List UInt8).length:Int):=by simp
 by_cases h:0<=Ch.hex a.toNat∧0<=Ch.hex b.toNat
 . rw[if_pos h,Ch.qG 16 6 _ (by simp) h6 (by rw[List.all_cons,List.all_cons,Ch.Je,Ch.Je,decide_eq_true h.1,decide_eq_true h.2];rfl)];unfold Ch.numOf;simp only[List.foldl_cons,List.foldl_nil];rw[show(0:Int)*16+Ch.hex a.toNat=Ch.hex a.toNat by omega,show Ch.hex a.toNat*16+Ch.hex b.toNat=16*Ch.hex a.toNat+Ch.hex b.toNat by omega]
 . rw[if_neg h,Ch.tq 16 6 _ (by
    rw[List.all_cons,List.all_cons,Ch.Je,Ch.Je];simp only[List.all_nil,Bool.and_true];rw[Bool.and_eq_false_iff,decide_eq_false_iff_not,decide_eq_false_iff_not];rcases Decidable.not_and_iff_not_or_not.1 h with h | h
    . exact Or.inl h
    . exact Or.inr h)]
theorem O8 {a b:UInt8}(ha:0<=Ch.hex a.toNat)(hb:0<=Ch.hex b.toNat):((16*Ch.hex a.toNat+Ch.hex b.toNat).toNat.toUInt8.toNat:Int)=16*Ch.hex a.toNat+Ch.hex b.toNat∧16*Ch.hex a.toNat+Ch.hex b.toNat<=255:=by
 have h1:=(Ch.nV a).2;have h2:=(Ch.nV b).2;generalize Ch.hex (a.toNat:Int)=x at *;generalize Ch.hex (b.toNat:Int)=y at *;refine⟨?_,by omega⟩;have:(16*x+y).toNat<256:=by omega
 have e:(16*x+y).toNat.toUInt8.toNat=(16*x+y).toNat:=by simp[Nat.toUInt8];omega
 rw[e];omega
def sH (d:List UInt8×Nat):Nat ⊕ List Pm.lW :=
 if d.2≠0 then .inl d.2
 else match Pm.dI d.1 with
  | .inl c=>.inl c
  | .inr x=>if x.1≠Av then .inl 11 else .inr x.2
def partOf (ps:List Pm.lW)(t:List UInt8×Nat):Nat ⊕ Rm :=
 match get Dx ps with
 | none=>.inl 6
 | some nm => match file ps with
   | none=>.inl 5
   | some f=>if t.2=9 then .inl 9 else .inr ⟨nm,f,t.1⟩
theorem EM (d t:List UInt8×Nat):jM d t=match sH d with
 | .inl c=>.inl c
 | .inr ps=>partOf ps t:=by
 unfold jM sH partOf;by_cases h:d.2≠0
 . rw[if_pos h,if_pos h]
 . rw[if_neg h,if_neg h];cases Pm.dI d.1 with
   | inl c=>rfl
   | inr x =>
     simp only;by_cases h2:x.1≠Av
     . rw[if_pos h2,if_pos h2]
     . rw[if_neg h2,if_neg h2];all_goals
        simp only;cases get Dx x.2 with
        | none=>rfl
        | some nm=>cases file x.2 <;> rfl
theorem O9 {d:List UInt8×Nat}{c:Nat}(h:d.2=0)(hm:Pm.dI d.1=.inl c):sH d=.inl c:=by unfold sH;rw[if_neg (fun e=>e h),hm]
theorem Lm {d:List UInt8×Nat}{x:List UInt8×List Pm.lW}(h:d.2=0)(hm:Pm.dI d.1=.inr x)(hx:x.1≠Av):sH d=.inl 11:=by unfold sH;rw[if_neg (fun e=>e h),hm];exact if_pos hx
theorem R5 {d:List UInt8×Nat}{x:List UInt8×List Pm.lW}(h:d.2=0)(hm:Pm.dI d.1=.inr x)(hx:x.1=Av):sH d=.inr x.2:=by unfold sH;rw[if_neg (fun e=>e h),hm];exact if_neg (fun e=>e hx)
theorem Ce:∀(n:Nat) (l y:List UInt8),l.length<=n->dec l=some y->y.length<=l.length
 | _,[],y,_,h=>by rw[dec] at h;injection h with h;subst h;exact Nat.le_refl _
 | 0,_::_,_,hn,_=>by simp at hn
 | n + 1, c :: t, y, hn, h => by
   simp only[List.length_cons] at hn;by_cases hc:c=37
   . subst hc;match t,hn,h with
     | [],_,h=>rw[uD (by simp)] at h;cases h
     | [_],_,h=>rw[uD (by simp)] at h;cases h
     | a :: b :: r, hn, h =>
       by_cases hab:0<=Ch.hex a.toNat∧0<=Ch.hex b.toNat
       . rw[JM hab.1 hab.2] at h;obtain⟨z,hz,rfl⟩:=Option.map_eq_some_iff.1 h;have:=Ce n r z (by simp only[List.length_cons] at hn;omega) hz;simp only[List.length_cons];omega
       . rw[JN hab] at h;cases h
   . rw[EK hc] at h;obtain⟨z,hz,rfl⟩:=Option.map_eq_some_iff.1 h;have:=Ce n t z (by omega) hz;simp only[List.length_cons];omega
theorem Lp {l y:List UInt8}(h:coded l=some y):y.length<=l.length:=by
 unfold coded at h;split at h
 . cases h
 . have:=Ce _ _ _ (Nat.le_refl _) h;rw[List.length_drop] at this;omega
theorem EN:∀(n:Nat) (r:List UInt8) (acc ps:List Pm.lW),acc.length<=8->Pm.mO n r acc=.inr ps->ps.length<=8
 | 0,r,acc,ps,h8,h=>by rw[Pm.mO] at h;injection h with h;subst h;exact h8
 | n + 1, r, acc, ps, h8, h => by
   rw[Pm.mO] at h;split at h
   . injection h with h;subst h;exact h8
   . split at h
     . cases h
     . split at h
       . cases h
       . split at h
         . cases h
         . rename_i hne;exact EN n _ _ ps (by rw[List.length_append];simp;omega) h
theorem Bd {l wd:List UInt8}{ps:List Pm.lW}(h:Pm.dI l=.inr (wd,ps)):ps.length<=8:=by
 unfold Pm.dI at h;split at h
 . cases h
 . split at h
   . cases h
   . unfold Pm.fin at h;split at h
     . cases h
     . rename_i hp;injection h with h;injection h with _ h;subst h;exact EN _ _ _ _ (Nat.zero_le _) hp
theorem Pb {d:List UInt8×Nat}{ps:List Pm.lW}(h:sH d=.inr ps):ps.length<=8∧∀p∈ps,p.2.length<=d.1.length:=by
 unfold sH at h;split at h
 . cases h
 . split at h
   . cases h
   . rename_i x hm;split at h
     . cases h
     . injection h with h;subst h;exact⟨Bd hm,fun p hp=>((Pm.tX hm).2 p hp).2⟩
end Go.Proofs.YtjmndjmhjleabaaGreatDoor.Fm
namespace Go.Proofs.YtjmndjmhjleabaaGreatDoor.Gt
open Sr
structure Ld where
 s:Sh
 ids:List Int
 told:List UInt8
 code:Nat
def ji (r:Ld)(p:Fm.Pt):Ld :=
 if (Sr.create r.s p.bytes.length (bG p)).2≠0 then { r with code:=(Sr.create r.s p.bytes.length (bG p)).2 }
 else if (Sr.append (Sr.create r.s p.bytes.length (bG p)).1 (r.s.h.last+1) 0 p.bytes).2≠0 then
  { r with s:=(Sr.drop (Sr.append (Sr.create r.s p.bytes.length (bG p)).1 (r.s.h.last+1) 0 p.bytes).1 (r.s.h.last+1)).1,code:=(Sr.append (Sr.create r.s p.bytes.length (bG p)).1 (r.s.h.last+1) 0 p.bytes).2 }
 else ⟨(Sr.append (Sr.create r.s p.bytes.length (bG p)).1 (r.s.h.last+1) 0 p.bytes).1,r.ids++[r.s.h.last+1],r.told++toldOf (r.s.h.last+1) p.file,0⟩
def adds (r:Ld):List Fm.Pt->Ld
 | []=>r
 | p::t=>if p.file.size=0 then adds r t else if (ji r p).code≠0 then ji r p else adds (ji r p) t
def ends (r:Ld):Sh×qY:=if r.code=0 then (Sr.sync r.s,(201,[],r.told)) else (Sr.sync (jo r.s r.ids),(stat r.code,[],[]))
theorem EP {s:Sh}{id off:Int}{b:List UInt8}(h:(Sr.append s id off b).2≠0):(Sr.append s id off b).1=s:=Tu.jc h
theorem ER {s:Sh}{z:Int}{m:ByteArray}(h:(Sr.create s z m).2≠0):(Sr.create s z m).1=s:=Tu.jc h
theorem qO:∀(ps:List Fm.Pt) (r:Ld),r.code=0->lands r.s r.ids r.told ps=ends (adds r ps)
 | [],r,h=>by unfold lands adds ends;rw[if_pos h]
 | p :: t, r, h => by
   unfold lands adds;by_cases h0:p.file.size=0
   . rw[if_pos h0,if_pos h0];exact qO t r h
   . rw[if_neg h0,if_neg h0];by_cases h1:(Sr.create r.s p.bytes.length (bG p)).2=0
     . by_cases h2:(Sr.append (Sr.create r.s p.bytes.length (bG p)).1 (r.s.h.last+1) 0 p.bytes).2=0
       . have ha:ji r p=⟨(Sr.append (Sr.create r.s p.bytes.length (bG p)).1 (r.s.h.last+1) 0 p.bytes).1,r.ids++[r.s.h.last+1],r.told++toldOf (r.s.h.last+1) p.file,0⟩:=by
          unfold ji;rw[if_neg (by rw[h1];simp),if_neg (by rw[h2];simp)]
         rw[if_neg (by show ¬(Sr.create r.s p.bytes.length (bG p)).2≠0;rw[h1];simp),if_neg (by show ¬(Sr.append (Sr.create r.s p.bytes.length (bG p)).1 (r.s.h.last+1) 0 p.bytes).2≠0;rw[h2];simp),ha,if_neg (by simp)];exact qO t ⟨(Sr.append (Sr.create r.s p.bytes.length (bG p)).1 (r.s.h.last+1) 0 p.bytes).1,r.ids++[r.s.h.last+1],r.told++toldOf (r.s.h.last+1) p.file,0⟩ rfl
       . have ha:ji r p={ r with s:=(Sr.drop (Sr.append (Sr.create r.s p.bytes.length (bG p)).1 (r.s.h.last+1) 0 p.bytes).1 (r.s.h.last+1)).1,code:=(Sr.append (Sr.create r.s p.bytes.length (bG p)).1 (r.s.h.last+1) 0 p.bytes).2 }:=by
          unfold ji;rw[if_neg (by rw[h1];simp),if_pos h2]
         rw[if_neg (by show ¬(Sr.create r.s p.bytes.length (bG p)).2≠0;rw[h1];simp),if_pos (show(Sr.append (Sr.create r.s p.bytes.length (bG p)).1 (r.s.h.last+1) 0 p.bytes).2≠0 from h2),ha,if_pos h2];unfold ends;rw[if_neg h2,EP h2]
     . have ha:ji r p={ r with code:=(Sr.create r.s p.bytes.length (bG p)).2 }:=by unfold ji;rw[if_pos h1]
       rw[if_pos (show(Sr.create r.s p.bytes.length (bG p)).2≠0 from h1),ha,if_pos h1];unfold ends;rw[if_neg h1]
theorem Cj {r:Ld}(h:Sr.Ok r.s)(p:Fm.Pt):Sr.Ok (ji r p).s:=by
 unfold ji;split
 . exact h
 . split
   . exact((h.create _ _).append _ _ _).drop _
   . exact(h.create _ _).append _ _ _
theorem Cm:∀(ps:List Fm.Pt) {r:Ld},Sr.Ok r.s->Sr.Ok (adds r ps).s
 | [],_,h=>h
 | p :: t, r, h => by
   unfold adds;split
   . exact Cm t h
   . split
     . exact Cj h p
     . exact Cm t (Cj h p)
structure Pk (r:Ld):Prop where
 ok:Sr.Ok r.s
 told:r.told.length<=120*r.ids.length
 few:r.ids.length<=r.s.h.l.length∨r.code≠0
theorem Lx {r:Ld}(h:Pk r)(h0:r.code=0)(p:Fm.Pt):Pk (ji r p):=by
 refine⟨Cj h.ok p,?_,?_⟩
 . unfold ji;split
   . exact h.told
   . rename_i h1;split
     . exact h.told
     . have hc:(Sr.create r.s p.bytes.length (bG p)).2=0:=Classical.byContradiction h1;have hz:(bG p).size=9+p.file.size:=by
        show(uR++p.file.data.toList).toArray.size=_;rw[List.size_toArray,List.length_append,Array.length_toList];rfl
       have h2:=(yj hc).2;have h3:=yt (r.s.h.last+1) p.file;have h4:=h.told;simp only[List.length_append,List.length_cons,List.length_nil];omega
 . unfold ji;split
   . rename_i h1;exact Or.inr h1
   . rename_i h1;split
     . rename_i h2;exact Or.inr h2
     . have hc:(Sr.create r.s p.bytes.length (bG p)).2=0:=Classical.byContradiction h1;refine Or.inl ?_;show(r.ids++[r.s.h.last+1]).length<=(Sr.append _ _ _ _).1.h.l.length;rw[El,(yj hc).1,List.length_append];rcases h.few with h | h
       . simp;omega
       . exact absurd h0 h
def bs (o:List Fm.Pt):Nat:=(o.map fun p=>p.bytes.length).sum
theorem uI (a b:List Fm.Pt):bs (a++b)=bs a+bs b:=by unfold bs;rw[List.map_append,List.sum_append]
theorem Qi:∀{o:List Fm.Pt} {q:Fm.Pt},q∈o->q.bytes.length<=bs o
 | p :: t, q, h => by
   show _<=p.bytes.length+bs t;rcases List.mem_cons.1 h with rfl | h
   . omega
   . have:=Qi h;omega
theorem SB (o:List Fm.Pt)(e:aZ)(h:e.aH=[]):bs (Fm.laid o e)<=bs o+e.bytes.length:=by
 unfold Fm.laid;split
 . rw[uI];show _+(e.aH.length+0)<=_;rw[h];show bs o+0<=_;omega
 . split
   . rcases List.eq_nil_or_concat o with rfl | ⟨q,p,rfl⟩
     . exact Nat.zero_le _
     . rw[List.concat_eq_append,List.dropLast_concat,List.getLast?_append,uI,uI];show bs q+(e.bytes.length+0)<=bs q+bs [p]+e.bytes.length;omega
   . omega
theorem Mk (o:List Fm.Pt)(e:aZ)(h:e.dO.size<=200)(ho:∀q∈o,q.file.size<=200):∀q∈Fm.laid o e,q.file.size<=200:=by
 unfold Fm.laid;split
 . intro q hq;rcases List.mem_append.1 hq with hq | hq
   . exact ho q hq
   . rw[List.mem_singleton.1 hq];exact h
 . split
   . rcases List.eq_nil_or_concat o with rfl | ⟨r,p,rfl⟩
     . intro q hq;cases hq
     . rw[List.concat_eq_append] at ho ⊢;rw[List.dropLast_concat,List.getLast?_append];intro q hq;rcases List.mem_append.1 hq with hq | hq
       . exact ho q (List.mem_append_left _ hq)
       . have:q={ p with bytes:=e.bytes }:=List.mem_singleton.1 hq;rw[this];exact ho p (List.mem_append_right _ (by simp))
   . exact ho
theorem SC (es:List aZ)(h:∀e∈es,Fm.mR e):bs (Fm.jF es)<=fE es∧∀q∈Fm.jF es,q.file.size<=200:=by
 have key:∀(m:List aZ) (o:List Fm.Pt),(∀e∈m,Fm.mR e)->(∀q∈o,q.file.size<=200)->bs (m.foldl Fm.laid o)<=bs o+fE m∧∀q∈m.foldl Fm.laid o,q.file.size<=200:=by
  intro m;induction m with
  | nil=>intro o _ ho;exact⟨Nat.le_refl _,ho⟩
  | cons e t ih =>
    intro o hm ho;have he:=hm e (by simp);have h1:=SB o e he.aH;have h2:=ih (Fm.laid o e) (fun x hx=>hm x (by simp[hx])) (Mk o e he.dO ho);refine⟨?_,h2.2⟩;show bs (t.foldl Fm.laid (Fm.laid o e))<=bs o+(e.bytes.length+fE t);have:=h2.1;omega
 have:=key es [] h (fun q hq=>by cases hq);refine⟨?_,this.2⟩;have h1:bs (Fm.jF es)<=0+fE es:=this.1;omega
theorem J3:∀o:List Fm.Pt,room o=bs o+200*o.length
 | []=>rfl
 | p :: t => by
   have:=J3 t;unfold room bs at *;simp only[List.map_cons,List.sum_cons,List.length_cons];omega
theorem Fx {b body:List UInt8}{ps:List Fm.Pt}(h:parts b body=some ps)(hm:3<=(Fm.mark b).length)(hg:Fm.Good (Fm.mark b) Fm.start)(hh:Fm.start.held<=1000)(hl:body.length<=20000):room ps<=1000000000∧ps.length<=1000000∧∀q∈ps,q.bytes.length<=1000000∧q.file.size<=900000:=by
 unfold parts at h;split at h
 . injection h with h;subst h;have h1:=Fm.iO hm body hg;have h2:=mP (Fm.outs (Fm.mark b) Fm.start body);have h3:=Ar (Fm.outs (Fm.mark b) Fm.start body);have h4:=SC _ (Fm.je (Fm.ko hm body hg));have h5:=Fm.uX (fP (Fm.outs (Fm.mark b) Fm.start body));have h6:=J3 (Fm.jF (fP (Fm.outs (Fm.mark b) Fm.start body)));refine⟨by omega,by omega,fun q hq=>⟨?_,by have:=h4.2 q hq;omega⟩⟩;have:q.bytes.length<=bs (Fm.jF (fP (Fm.outs (Fm.mark b) Fm.start body))):=Qi hq;omega
 . cases h
theorem Qj (r:Ld)(p:Fm.Pt):(ji r p).ids.length<=r.ids.length+1:=by
 unfold ji;split
 . exact Nat.le_succ _
 . split
   . exact Nat.le_succ _
   . simp
theorem ze:∀(ps:List Fm.Pt) (r:Ld),(adds r ps).ids.length<=r.ids.length+ps.length
 | [],_=>Nat.le_refl _
 | p :: t, r => by
   unfold adds;rw[List.length_cons];split
   . have:=ze t r;omega
   . have h1:=Qj r p;split
     . omega
     . have:=ze t (ji r p);omega
/-! ### a form, by its ways -/
section
variable {s:Sh} {l:List (ByteArray×ByteArray)} {body b:List UInt8} {ps:List Fm.Pt}
theorem Ml (h:bound l=none):land s l body=(s,(415,[],[])):=by unfold land;rw[h]
theorem Qk (h:bound l=some b)(h2:parts b body=none):land s l body=(s,(400,[],[])):=by
 unfold land;rw[h];show(match parts b body with | none=>_ | some ps=>_)=_;rw[h2]
theorem Mq (h:bound l=some b)(h2:parts b body=some ps)(h3:100000<s.log.length+room ps):land s l body=(s,(507,[],[])):=by
 unfold land;rw[h];show(match parts b body with | none=>_ | some ps=>_)=_;rw[h2];show(if 100000<s.log.length+room ps then _ else _)=_;rw[if_pos h3]
theorem Mr (h:bound l=some b)(h2:parts b body=some ps)(h3:¬100000<s.log.length+room ps):land s l body=ends (adds ⟨s,[],[],0⟩ ps):=by
 unfold land;rw[h];show(match parts b body with | none=>_ | some ps=>_)=_;rw[h2];show(if 100000<s.log.length+room ps then _ else _)=_;rw[if_neg h3];exact qO ps ⟨s,[],[],0⟩ rfl
end
end Go.Proofs.YtjmndjmhjleabaaGreatDoor.Gt