/- Small texts, one behind the other: LinA, LinB, CkA, PmRdA, PmRdB, PmRdC, TdA, RqAdd, LinG, RfHS, RfHT. -/
import Derived.Test.YthhklgjjnaeaoaaGreatDoorPk5
import Derived.Test.YthhklgjjnaeaoaaGreatDoorPk10
import Derived.Test.YthhklgjjnaeaoaaGreatDoorPk16
import Derived.Test.YthhklgjjnaeaoaaGreatDoorPk13
open Go.Value renaming int->I,string->V,slice->Z,pointer->Q
open Go.IntKind renaming i64->J
open Go.Obj renaming cells->K
open Go.Ending renaming returned->Y
open Option renaming none->U,some->M
open Bool renaming false->F
open Go renaming World->X
set_option maxHeartbeats 8000000
set_option maxRecDepth 100000
open Go.Proofs.Tryz
namespace Go.Proofs.YthhklgjjnaeaoaaGreatDoor
open Go.RowKit
def gW (w:X)(S:Nat->Prop)(g:Nat)(s:Ln.St):Prop :=
 ∃ao cap, w.heap[g]? = M (K #[Z ao s.line.length cap, .bool s.ending, I J (s.code : Int)] 225 (0, 0)) ∧
   iA w 0 5 ao cap s.line∧S g∧∀a,ao=M a->S a.block
theorem gW.lt {w:X}{S:Nat->Prop}{g:Nat}{s:Ln.St}(h:gW w S g s):g<w.heap.size:=by grind [gW]
theorem gW.mono {w:X}{S S':Nat->Prop}{g:Nat}{s:Ln.St}(h:gW w S g s)(c:∀k,k<w.heap.size->S k->S' k):gW w S' g s:=by
 obtain⟨i,b,d,f,j,l⟩:=h;exact⟨i,b,d,f,c g (aL.1 d).1 j,fun a e=>c _ (f.block a e).2 (l a e)⟩
theorem gW.turns {w w':X}{S S':Nat->Prop}{g:Nat}{s:Ln.St}(h:gW w S g s)(c:Turns S' w w')(d:∀k,S k->¬S' k):gW w' S g s:=by
 obtain⟨j,b,l,m,f,i⟩:=h;exact⟨j,b,c.row l (d g f),m.turns c (fun a e=>d _ (i a e)),f,i⟩
theorem gW.drewN {w:X}{S:Nat->Prop}{g:Nat}{s:Ln.St}(h:gW w S g s)(n:Nat):gW (w.drewN n) S g s:=h.turns (Turns.drewN (fun _=>False) w n) (fun _ _ e=>e)
theorem gW.code {w:X}{S:Nat->Prop}{g:Nat}{s:Ln.St}(h:gW w S g s)(k:Nat):gW (w.setCell ⟨g,2,U⟩ (I J (k:Int))) S g { s with code:=k }∧Turns S w (w.setCell ⟨g,2,U⟩ (I J (k:Int))):=by
 obtain⟨j,b,c,d,f,l⟩:=h;refine⟨⟨j,b,?_,d.turns (Turns.setCell (fun i=>i=g) w _ _ rfl) ?_,f,l⟩,Turns.setCell S w _ _ f⟩
 . rw[fu w g 2 _ _ _ c];rfl
 . intro a e;have:=kP c d (by decide);rw[gD,e] at this;intro m;exact this (by simp[fV,m])
theorem gW.ends {w:X}{S:Nat->Prop}{g:Nat}{s:Ln.St}(h:gW w S g s)(b:Bool):gW (w.setCell ⟨g,1,U⟩ (.bool b)) S g { s with ending:=b }∧Turns S w (w.setCell ⟨g,1,U⟩ (.bool b)):=by
 obtain⟨k,c,d,f,j,l⟩:=h;refine⟨⟨k,c,?_,f.turns (Turns.setCell (fun i=>i=g) w _ _ rfl) ?_,j,l⟩,Turns.setCell S w _ _ j⟩
 . rw[fu w g 1 _ _ _ d];rfl
 . intro a e;have:=kP d f (by decide);rw[gD,e] at this;intro m;exact this (by simp[fV,m])
theorem gW.drop {w:X}{S:Nat->Prop}{g:Nat}{s:Ln.St}(h:gW w S g s):gW (w.setCell ⟨g,0,U⟩ (Z U 0 0)) S g { s with line:=[] }∧Turns S w (w.setCell ⟨g,0,U⟩ (Z U 0 0)):=by
 obtain⟨f,c,d,i,b,j⟩:=h;refine⟨⟨U,0,?_,iA.nil _ _ _,b,fun a e=>by cases e⟩,Turns.setCell S w _ _ b⟩;rw[fu w g 0 _ _ _ d];rfl
theorem gW.grow {w c:X}{S:Nat->Prop}{g:Nat}{s:Ln.St}{l:av}{ao:ak}{cap:Nat}{gJ:ak}{b:Nat}(o:w.heap[g]? = M (K #[Z ao s.line.length cap,.bool s.ending,I J (s.code:Int)] 225 (0,0)))(f:S g)(j:iA c 0 5 gJ b l)(m:Turns (fun k=>S k∧k≠g) w c)(ha:∀a,gJ=M a->gB S w a.block)(n:Nat)(p:n=l.length):
 gW (c.setCell ⟨g,0,U⟩ (Z gJ n b)) (gB S w) g { s with line:=l }∧Turns S w (c.setCell ⟨g,0,U⟩ (Z gJ n b)):=by
 subst p;have d:=m.row o (fun e=>e.2 rfl);refine⟨⟨gJ,b,?_,j.turns (Turns.setCell (fun i=>i=g) c _ _ rfl) ?_,Or.inl f,ha⟩,(m.mono (fun k e=>e.1)).trans (Turns.setCell S c _ _ f) (fun i e _=>e)⟩
 . rw[fu c g 0 _ _ _ d];rfl
 . intro a e;have:=kP d j (by decide);rw[gD,e] at this;intro q;exact this (by simp[fV,q])
theorem ug (w:X):
 Calls prog 115 #[] w fun e w'=>e=Y (Q (M ⟨w.heap.size,0,U⟩))∧gW w' (fun k=>w.heap.size<=k) w.heap.size Ln.start∧Below w.heap.size w w':=by
 go_enter func115,ntmps115;go_wp2;go_ret;exact⟨rfl,⟨U,0,eX w _,iA.nil _ _ _,aM _,fun a e=>by cases e⟩,(eY _ _).alloc (aM _) _⟩
theorem nS (w:X)(S:Nat->Prop)(g:Nat)(s:Ln.St)(c:UInt8)(h:gW w S g s):
 Calls prog 183 #[Q (M ⟨g,0,U⟩),I .u8 c.toNat] w fun e w'=>e=Y (I J (Ln.fault s c:Int))∧w'=w:=by
 obtain⟨x,u,r,_⟩:=h;have y:=eZ w g 0 _ _ _ r;have k:=eZ w g 1 _ _ _ r;have l:=ru (c.toNat:Int) w;by_cases b:s.ending=(c==10)
 . by_cases m:c=13
   . have p:((c.toNat:Int)==13)=true:=by rw[m];rfl
     have f:((c.toNat:Int)==10)=F:=by rw[m];rfl
     have d:Ln.fault s c=0:=by unfold Ln.fault;rw[if_pos b,if_pos (Or.inl m)]
     have i:s.ending=F:=by rw[b,m];rfl
     rw[d];rw[i] at k;go_enter func183,ntmps183;go_wp2;go_ret;exact⟨rfl,rfl⟩
   . have p:((c.toNat:Int)==13)=F:=mU m;by_cases a:c=10
     . have f:((c.toNat:Int)==10)=true:=by rw[a];rfl
       have d:Ln.fault s c=0:=by unfold Ln.fault;rw[if_pos b,if_pos (Or.inr a)]
       have i:s.ending=true:=by rw[b,a];rfl
       rw[d];rw[i] at k;go_enter func183,ntmps183;go_wp2;go_ret;exact⟨rfl,rfl⟩
     . have f:((c.toNat:Int)==10)=F:=mU a;have i:s.ending=F:=by rw[b];exact aR.2 a
       have j:¬(c=13∨c=10):=by rintro (e | e) <;> contradiction
       rw[i] at k;cases n:Ch.visible (c.toNat:Int)
       . have d:Ln.fault s c=3:=by unfold Ln.fault;rw[if_pos b,if_neg j,if_pos n]
         rw[n] at l;rw[d];go_enter func183,ntmps183;go_wp2_with fail
         refine l.mono ?_;rintro e w' ⟨rfl,o⟩;subst o;go_wp2;go_ret;exact⟨rfl,rfl⟩
       . rw[n] at l;by_cases t:200<=s.line.length
         . have d:Ln.fault s c=4:=by unfold Ln.fault;rw[if_pos b,if_neg j,if_neg (by rw[n];simp),if_pos t]
           have v:decide ((s.line.length:Int)≥200)=true:=by rw[bP];omega
           rw[d];go_enter func183,ntmps183;go_wp2_with fail
           refine l.mono ?_;rintro e w' ⟨rfl,o⟩;subst o;go_wp2;go_ret;exact⟨rfl,rfl⟩
         . have d:Ln.fault s c=0:=by unfold Ln.fault;rw[if_pos b,if_neg j,if_neg (by rw[n];simp),if_neg t]
           have v:decide ((s.line.length:Int)≥200)=F:=by rw[bO];omega
           rw[d];go_enter func183,ntmps183;go_wp2_with fail
           refine l.mono ?_;rintro e w' ⟨rfl,o⟩;subst o;go_wp2;go_ret;exact⟨rfl,rfl⟩
 . have d:Ln.fault s c=2:=by unfold Ln.fault;rw[if_neg b]
   rw[d];by_cases a:c=10
   . have f:((c.toNat:Int)==10)=true:=by rw[a];rfl
     have i:s.ending=F:=by
      cases q:s.ending
      . rfl
      . exact absurd (by rw[q,a];rfl) b
     rw[i] at k;go_enter func183,ntmps183;go_wp2;go_ret;exact⟨rfl,rfl⟩
   . have f:((c.toNat:Int)==10)=F:=mU a;have i:s.ending=true:=by
      cases q:s.ending
      . exact absurd (by rw[q];exact(aR.2 a).symm) b
      . rfl
     rw[i] at k;go_enter func183,ntmps183;go_wp2;go_ret;exact⟨rfl,rfl⟩
def Ln.fed (s:Ln.St)(c:UInt8):Value:=.tuple #[V ⟨(Ln.text s c).toArray⟩,.bool (Ln.ends s c),I J ((Ln.next s c).code:Int)]
theorem Ln.Dv {s a:Ln.St}{c:UInt8}{t:av}{b:Bool}{k:Nat}(d:Ln.text s c=t)(e:Ln.ends s c=b)(f:Ln.next s c=a)(g:a.code=k):Ln.fed s c=.tuple #[V ⟨t.toArray⟩,.bool b,I J (k:Int)]:=by
 unfold Ln.fed;rw[d,e,f,g]
theorem wP {w:X}{S:Nat->Prop}{g:Nat}{s:Ln.St}(h:gW w S g s)(W:X):gW w (gB S W) g s:=h.mono (fun _ _ e=>Or.inl e)
theorem gN.abo (W:X)(c:UInt8)(t:Nat)(a:Nat×Nat){k:Nat}(b:W.heap.size=k):gN (W.alloc (K #[I .u8 (c.toNat:Int)] t a)) (M ⟨k,0,U⟩) 1 [c]:=b▸gN.one W c t a
theorem VZ {W b:X}{g:Nat}{row:Obj}{r:Option Nat}(c:W.heap[g]? = M row)(d:Obj)(e:(W.alloc d).grownBy b r)(f:M g≠r):b.heap[g]? = M row:=by
 have a:g<W.heap.size:=(aL.1 c).1;have:=e.block g (by simp;omega) f;rw[this,(fJ W d U).block g a (by simp)];exact c
theorem Ni (w:X)(S:Nat->Prop)(g:Nat)(s:Ln.St)(c:UInt8)(h:gW w S g s)(b:s.code≠0):
 Calls prog 134 #[Q (M ⟨g,0,U⟩),I .u8 c.toNat] w fun e w'=>e=Y (Ln.fed s c)∧gW w' (gB S w) g (Ln.next s c)∧Turns S w w':=by
 have a:=Ln.again c b;rw[Ln.Dv a.2.1 a.2.2 a.1 rfl,a.1];have d:=H9 h;obtain⟨j,f,i,_⟩:=h;have k:=eZ w g 2 _ _ _ i;have l:((s.code:Int)==0)=F:=by rw[aR];omega
 have m:((s.code:Int) != 0)=true:=by rw[cK];omega
 go_enter func134,ntmps134;go_wp2;go_quiet (fail)
 go_wp2;go_ret3
 exact⟨rfl,wP (d.o.drewN _) w,Turns.drewN _ _ _⟩
theorem RH (w:X)(S:Nat->Prop)(g:Nat)(s:Ln.St)(c:UInt8)(k:Nat)(h:gW w S g s)(m:s.code=0)(a:Ln.fault s c=k)(d:k≠0):
 Calls prog 134 #[Q (M ⟨g,0,U⟩),I .u8 c.toNat] w fun e w'=>e=Y (Ln.fed s c)∧gW w' (gB S w) g (Ln.next s c)∧Turns S w w':=by
 have f:Ln.next s c={ s with code:=k }:=by unfold Ln.next;rw[if_neg (by omega),a,if_pos d]
 rw[Ln.Dv (t:=[]) (b:=F) (by unfold Ln.text;rw[if_neg (fun e=>d (a.symm.trans e.2.1))]) (by unfold Ln.ends;rw[bO];exact fun e=>d (a.symm.trans e.2.1)) f rfl,f];have i:=nS w S g s c h;rw[a] at i;have j:=h.code k;obtain⟨p,n,l,_⟩:=h;have q:w.cell? ⟨g,2,U⟩=M (I J 0):=by
  rw[eZ w g 2 _ _ _ l];simp[m]
 have r:=fq w g 2 _ _ l;have u:((k:Int) != 0)=true:=by rw[cK];omega
 go_enter func134,ntmps134;go_wp2_with fail
 refine i.mono ?_;rintro e v ⟨rfl,o⟩;subst o;go_wp2;go_quiet (fail)
 go_wp2;go_ret3
 exact⟨rfl,wP (j.1.drewN _) _,j.2.trans (Turns.drewN S _ _) (fun _ e _=>e)⟩
theorem V3 (w:X)(S:Nat->Prop)(g:Nat)(s:Ln.St)(h:gW w S g s)(j:s.code=0)(f:Ln.fault s 10=0):
 Calls prog 134 #[Q (M ⟨g,0,U⟩),I .u8 10] w fun e w'=>e=Y (Ln.fed s 10)∧gW w' (gB S w) g (Ln.next s 10)∧Turns S w w':=by
 have k:Ln.next s 10=⟨[],F,0⟩:=by unfold Ln.next;rw[if_neg (by omega),f];rfl
 rw[Ln.Dv (t:=s.line) (b:=true) (by unfold Ln.text;rw[if_pos ⟨j,f,rfl⟩]) (by unfold Ln.ends;rw[bP];exact⟨j,f,rfl⟩) k rfl,k];have l:=nS w S g s 10 h;rw[f] at l;have m:=h.code 0;have d:=m.1.drop;have n:=d.1.ends F;obtain⟨v,p,c,o,_⟩:=h;have x:=eZ w g 0 _ _ _ c;have y:=eZ w g 1 _ _ _ c;have z:w.cell? ⟨g,2,U⟩=M (I J 0):=by
  rw[eZ w g 2 _ _ _ c];simp[j]
 have B:=fq w g 0 _ _ c;have C:=fq w g 1 _ _ c;have D:=fq w g 2 _ _ c;have q:=(o.tQ.turns (w':=w.setCell ⟨g,2,U⟩ (I J 0)) (Turns.setCell (fun i=>i=g) w _ _ rfl) (fun a e=>by
  have:=kP c o (by decide);rw[gD,e] at this;intro r;exact this (by simp[fV,r]))).str (P:=prog) 31 9 5 underlying31 underlying5 underlying9
 generalize (⟨s.line.toArray⟩:ay)=bs at q ⊢;go_enter func134,ntmps134;go_wp2_with fail
 refine l.mono ?_;rintro e G ⟨rfl,u⟩;subst u;go_wp2;go_ret3
 exact⟨rfl,wP n.1 _,m.2.trans (d.2.trans n.2 (fun _ e _=>e)) (fun _ e _=>e)⟩
theorem Y9 (w:X)(S:Nat->Prop)(g:Nat)(s:Ln.St)(h:gW w S g s)(c:s.code=0)(d:Ln.fault s 13=0):
 Calls prog 134 #[Q (M ⟨g,0,U⟩),I .u8 13] w fun e w'=>e=Y (Ln.fed s 13)∧gW w' (gB S w) g (Ln.next s 13)∧Turns S w w':=by
 have f:Ln.next s 13=⟨s.line,true,0⟩:=by unfold Ln.next;rw[if_neg (by omega),d,c];rfl
 rw[Ln.Dv (t:=[]) (b:=F) (by unfold Ln.text;rw[if_neg (fun e=>by cases e.2.2)]) (by unfold Ln.ends;rw[bO];exact fun e=>by cases e.2.2) f rfl,f];have i:=nS w S g s 13 h;rw[d] at i;have j:=h.code 0;have k:=j.1.ends true;obtain⟨n,l,a,o,_⟩:=h;have p:=eZ w g 1 _ _ _ a;have q:w.cell? ⟨g,2,U⟩=M (I J 0):=by
  rw[eZ w g 2 _ _ _ a];simp[c]
 have r:=fq w g 1 _ _ a;have u:=fq w g 2 _ _ a;go_enter func134,ntmps134;go_wp2_with fail
 refine i.mono ?_;rintro e v ⟨rfl,m⟩;subst m;go_wp2;go_ret3
 exact⟨rfl,wP k.1 _,j.2.trans k.2 (fun _ e _=>e)⟩
theorem RI (w:X)(S:Nat->Prop)(g:Nat)(s:Ln.St)(c:UInt8)(h:gW w S g s)(hs:s.line.length<=200)(C:s.code=0)(D:Ln.fault s c=0)(d:c≠10)(G:c≠13):
 Calls prog 134 #[Q (M ⟨g,0,U⟩),I .u8 c.toNat] w fun e w'=>e=Y (Ln.fed s c)∧gW w' (gB S w) g (Ln.next s c)∧Turns S w w':=by
 have H:Ln.next s c=⟨s.line++[c],s.ending,0⟩:=by unfold Ln.next;rw[if_neg (by omega),D,if_neg (by omega),if_neg d,if_neg G,C]
 rw[Ln.Dv (t:=[]) (b:=F) (by unfold Ln.text;rw[if_neg (fun e=>d e.2.2)]) (by unfold Ln.ends;rw[bO];exact fun e=>d e.2.2) H rfl,H];have L:=nS w S g s c h;rw[D] at L;have t10:((c.toNat:Int)==10)=F:=mU d;have t13:((c.toNat:Int)==13)=F:=mU G;have HS:=h.code 0;obtain⟨f,j,m,N,h1,T⟩:=h;obtain⟨i0,v,x,y,z⟩:=info_parts jJ;have Hi:=v;have kY:=H9 x;have kT:=H9 y;have kZ:=H9 z
 have n:∀a,f=M a->a.block≠g:=fun a e e2=>by
  have:=kP m N (by decide);rw[gD,e] at this;exact this (by simp[fV,e2])
 have c0:w.cell? ⟨g,0,U⟩=M (Z f s.line.length j):=eZ w g 0 _ _ _ m;have c2:w.cell? ⟨g,2,U⟩=M (I J 0):=by
  rw[eZ w g 2 _ _ _ m];simp[C]
 have f0:w.frozen? ⟨g,0,U⟩=F:=fq w g 0 _ _ m;have f2:w.frozen? ⟨g,2,U⟩=F:=fq w g 2 _ _ m;have HO:=N.turns (w':=w.setCell ⟨g,2,U⟩ (I J 0)) (Turns.setCell (fun i=>i=g) w _ _ rfl) (fun a e=>n a e);have W:(w.setCell ⟨g,2,U⟩ (I J 0)).heap[g]? = M (K #[Z f s.line.length j,.bool s.ending,I J (0:Int)] 225 (0,0)):=by
  show _=_;rw[fu w g 2 _ _ _ m];rfl
 have hlt:g<w.heap.size:=(aL.1 m).1;go_enter func134,ntmps134;go_wp2_with fail
 refine L.mono ?_;rintro e u ⟨rfl,hw⟩;subst hw;have HN:M g≠fV f:=by
  cases f with
  | none=>simp[fV]
  | some a=>intro e;injection e with e;exact n a rfl e.symm
 go_wp2_with (at_builtin;refine jP rfl (.tmp 23) (.tmp 25) 31 rfl 0 5 i0 underlying31 Hi kY.o kT.o kZ.o (l:=s.line) (l2:=[c]) rfl rfl (HO.alloc _) rfl rfl (gN.abo _ _ _ _ (by simp)) (by simp;omega) (aA _) ?_;intro kI gZ q r p jQ;have B:=VZ W _ p HN;have c3:q.cell? ⟨g,0,U⟩=M (Z f s.line.length j):=eZ q g 0 _ _ _ B;have f3:q.frozen? ⟨g,0,U⟩=F:=fq q g 0 _ _ B;have rZ:=H9 r;have xU:=H9 p;have Jy:=H9 jQ;clear r p jQ B)
 go_ret3
 have hz:(u.setCell ⟨g,2,U⟩ (I J 0)).heap.size=u.heap.size:=by simp
 have hT:Turns (fun k=>S k∧k≠g) (u.setCell ⟨g,2,U⟩ (I J 0)) q :=
  (Turns.iL (fJ _ _ U) (fun k e => by cases e)).trans (Turns.iL xU.o (S := fun k => S k ∧ k ≠ g) (fun k e => by
   cases f with
   | none=>cases e
   | some a=>injection e with e;subst e;exact⟨T a rfl,n a rfl⟩)) (fun _ e _=>e)
 have hA:∀a,kI=M a->gB S (u.setCell ⟨g,2,U⟩ (I J 0)) a.block:=by
  intro a e;subst e;rcases Jy.o with e | e
  . cases f with
    | none=>cases e
    | some a'=>injection e with e;rw[e];exact Or.inl (T a' rfl)
  . injection e with e;rw[e];exact Or.inr (by simp)
 have hL:=gW.grow (s:=⟨s.line,s.ending,0⟩) W h1 rZ.o hT hA (s.line.length+1) (by simp);refine⟨rfl,hL.1.mono (fun k _ e=>?_),HS.2.trans hL.2 (fun _ e _=>e)⟩;rcases e with e | e
 . exact Or.inl e
 . exact Or.inr (by omega)
theorem oM (w:X)(S:Nat->Prop)(g:Nat)(s:Ln.St)(c:UInt8)(h:gW w S g s)(i:s.line.length<=200):
 Calls prog 134 #[Q (M ⟨g,0,U⟩),I .u8 c.toNat] w fun e w'=>e=Y (Ln.fed s c)∧gW w' (gB S w) g (Ln.next s c)∧Turns S w w':=by
 by_cases a:s.code=0
 . by_cases d:Ln.fault s c=0
   . by_cases b:c=10
     . subst b;exact V3 w S g s h a d
     . by_cases f:c=13
       . subst f;exact Y9 w S g s h a d
       . exact RI w S g s c h i a d b f
   . exact RH w S g s c _ h a rfl d
 . exact Ni w S g s c h a
structure iD (w:X)(S:Nat->Prop)(g gl:Nat)(nx lf rm fd code:Int)(ln:Ln.St):Prop where
 row:w.heap[g]? = M (K #[Q (M ⟨gl,0,U⟩),I J nx,I J lf,I J rm,I J fd,I J code] 275 (0,0))
 mem:S g
 line:gW w (fun k=>S k∧k≠g) gl ln
def oW (w:X)(S:Nat->Prop)(g:Nat)(s:Ck.St):Prop :=
 ∃gl nx lf rm fd ln,iD w S g gl nx lf rm fd (Ck.pc s:Int) ln∧(Ck.pc s=0->ln=s.ln∧nx=(Ck.nx s:Int)∧lf=(Ck.lf s:Int)∧rm=4000-(s.total:Int)∧fd=(s.count:Int))
section
variable {w w':X} {S S':Nat->Prop} {g gl:Nat} {nx lf rm fd code:Int} {ln:Ln.St}
theorem iD.mono (h:iD w S g gl nx lf rm fd code ln)(a:∀k,k<w.heap.size->S k->S' k):iD w S' g gl nx lf rm fd code ln :=
 ⟨h.row,a g (aL.1 h.row).1 h.mem,h.line.mono (fun k b e=>⟨a k b e.1,e.2⟩)⟩
theorem iD.turns (h:iD w S g gl nx lf rm fd code ln)(a:Turns S' w w')(b:∀k,S k->¬S' k):iD w' S g gl nx lf rm fd code ln :=
 ⟨a.row h.row (b g h.mem),h.mem,h.line.turns a (fun k e=>b k e.1)⟩
theorem iD.stay (h:iD w S g gl nx lf rm fd code ln)(a:Below w.heap.size w w'):iD w' S g gl nx lf rm fd code ln:=h.turns (Turns.of_below (S:=fun _=>False) a) (fun _ _ e=>e)
theorem iD.cell (h:iD w S g gl nx lf rm fd code ln)(j:Nat)(a:j<6):w.cell? ⟨g,j,U⟩=#[Value.pointer (M ⟨gl,0,U⟩),I J nx,I J lf,I J rm,I J fd,I J code][j]?:=by
 match j,a with
 | 0,_=>exact eZ w g 0 _ _ _ h.row
 | 1,_=>exact eZ w g 1 _ _ _ h.row
 | 2,_=>exact eZ w g 2 _ _ _ h.row
 | 3,_=>exact eZ w g 3 _ _ _ h.row
 | 4,_=>exact eZ w g 4 _ _ _ h.row
 | 5,_=>exact eZ w g 5 _ _ _ h.row
theorem iD.frozen (h:iD w S g gl nx lf rm fd code ln)(j:Nat):w.frozen? ⟨g,j,U⟩=F:=fq w g j _ _ h.row
theorem iD.put (h:iD w S g gl nx lf rm fd code ln)(j:Nat)(v:Value){b c d f a:Int}
 (e:(#[Value.pointer (M ⟨gl,0,U⟩),I J nx,I J lf,I J rm,I J fd,I J code].setIfInBounds j v)=#[Value.pointer (M ⟨gl,0,U⟩),I J b,I J c,I J d,I J f,I J a]) :
 iD (w.setCell ⟨g,j,U⟩ v) S g gl b c d f a ln:=by
 refine⟨?_,h.mem,h.line.turns (Turns.setCell (fun i=>i=g) w _ _ rfl) (fun k e=>e.2)⟩;rw[fu w g j _ _ _ h.row,e]
theorem iD.next (h:iD w S g gl nx lf rm fd code ln)(k:Int):iD (w.setCell ⟨g,1,U⟩ (I J k)) S g gl k lf rm fd code ln:=h.put 1 _ rfl
theorem iD.left (h:iD w S g gl nx lf rm fd code ln)(k:Int):iD (w.setCell ⟨g,2,U⟩ (I J k)) S g gl nx k rm fd code ln:=h.put 2 _ rfl
theorem iD.room (h:iD w S g gl nx lf rm fd code ln)(k:Int):iD (w.setCell ⟨g,3,U⟩ (I J k)) S g gl nx lf k fd code ln:=h.put 3 _ rfl
theorem iD.fields (h:iD w S g gl nx lf rm fd code ln)(k:Int):iD (w.setCell ⟨g,4,U⟩ (I J k)) S g gl nx lf rm k code ln:=h.put 4 _ rfl
theorem iD.Gl (h:iD w S g gl nx lf rm fd code ln)(k:Int):iD (w.setCell ⟨g,5,U⟩ (I J k)) S g gl nx lf rm fd k ln:=h.put 5 _ rfl
theorem iD.turn (h:iD w S g gl nx lf rm fd code ln)(j:Nat)(v:Value):Turns S w (w.setCell ⟨g,j,U⟩ v):=Turns.setCell S w _ _ h.mem
end
theorem oW.mono {w:X}{S S':Nat->Prop}{g:Nat}{s:Ck.St}(h:oW w S g s)(a:∀k,k<w.heap.size->S k->S' k):oW w S' g s:=by
 obtain⟨b,nx,lf,c,d,e,h,k⟩:=h;exact⟨b,nx,lf,c,d,e,h.mono a,k⟩
theorem oW.turns {w w':X}{S S':Nat->Prop}{g:Nat}{s:Ck.St}(h:oW w S g s)(a:Turns S' w w')(b:∀k,S k->¬S' k):oW w' S g s:=by
 obtain⟨c,nx,lf,d,e,f,h,k⟩:=h;exact⟨c,nx,lf,d,e,f,h.turns a b,k⟩
theorem EY (w:X):
 Calls prog 187 #[] w fun e w'=>∃g,e=Y (Q (M ⟨g,0,U⟩))∧oW w' (fun k=>w.heap.size<=k) g Ck.start∧Below w.heap.size w w':=by
 go_enter func187,ntmps187;go_wp2_with fail
 refine(ug w).mono ?_;rintro e a ⟨rfl,i,j⟩;have d:=i;have f:=H9 j
 go_wp2;go_ret;have b:=f.o.size;have l:=d.lt;have m:Turns (fun _=>False) a (a.alloc (K #[Q (M ⟨w.heap.size,0,U⟩),I J 0,I J 0,I J 4000,I J 0,I J 0] 275)):=Turns.of_below ((eY _ _).alloc (aM _) _);have c:=(d.mono (S':=fun k=>w.heap.size<=k∧k≠a.heap.size) (fun k n e=>⟨e,by omega⟩)).turns m (fun _ _ e=>e);exact⟨a.heap.size,rfl,⟨w.heap.size,0,0,4000,0,Ln.start,⟨eX a _,b,c⟩,fun _=>⟨rfl,rfl,rfl,rfl,rfl⟩⟩,f.o.trans ((eY _ _).alloc b _)⟩
def iR (w:X)(g:Nat)(s:ay)(i:Nat):Prop:=w.heap[g]? = M (K #[V s,I J (i:Int)] 298 (0,0))
def only(g:Nat):Nat->Prop:=fun k=>k=g
def gave (c:Nat):Ending:=.panicked [{ v:=.iface 326 (I J (c:Int)),recovered:=F }]
section
variable {w w':X} {g:Nat} {s:ay} {i:Nat}
theorem iR.lt (h:iR w g s i):g<w.heap.size:=(aL.1 h).1
theorem iR.keep (h:iR w g s i)(a:Below w.heap.size w w'):iR w' g s i:=(a.block g h.lt).trans h
theorem iR.drewN (h:iR w g s i)(n:Nat):iR (w.drewN n) g s i:=h
theorem iR.turns {S:Nat->Prop}(h:iR w g s i)(a:Turns S w w')(b:¬S g):iR w' g s i:=a.row h b
theorem iR.cells (h:iR w g s i):w.cell? ⟨g,0,U⟩=M (V s)∧w.cell? ⟨g,1,U⟩=M (I J (i:Int))∧w.frozen? ⟨g,1,U⟩=F :=
 ⟨eZ w _ 0 _ _ _ h,eZ w _ 1 _ _ _ h,fq w _ 1 _ _ h⟩
theorem iR.go (h:iR w g s i)(j:Nat)(x:Int)(a:x=j):iR (w.setCell ⟨g,1,U⟩ (I J x)) g s j:=by
 subst a;unfold iR at h ⊢;rw[fu w g 1 _ _ _ h];rfl
end
theorem Turns.go {w:X}{g:Nat}(n:Nat)(v:Value):Turns (only g) w ((w.drewN n).setCell ⟨g,1,U⟩ v) :=
 (Turns.drewN _ w n).trans (Turns.setCell (only g) _ _ _ rfl) (fun _ h _=>h)
theorem qL (s:ay)(i g:Nat)(w:X)(h:iR w g s i):
 Calls prog 294 #[Q (M ⟨g,0,U⟩)] w fun e w'=>e=Y (.bool (decide (i<s.size)))∧∃n,w'=w.drewN n:=by
 obtain⟨a,b,c⟩:=h.cells;clear h;go_enter func294,ntmps294;go_wp2;go_quiet (fail)
 go_wp2;go_ret;exact⟨rfl,nq,rfl⟩
theorem vT (s:ay)(i g:Nat)(c:UInt8)(w:X)(h:iR w g s i)(m:s.size<=1000000)(a:s.data.toList[i]? = M c):
 Calls prog 327 #[Q (M ⟨g,0,U⟩),I .u8 (c.toNat:Int)] w fun e w'=>e=Y (.bool true)∧iR w' g s (i+1)∧Turns (only g) w w':=by
 have d:s.data.toList.length=s.size:=by rw[aO];rfl
 have f:=fun q=>qL s i g (w.drewN q) (h.drewN q);have n:=h.cells;have b:i<s.size:=by
  have:=(aQ.1 a).1;rwa[d] at this
 have k:decide (i<s.size)=true:=by rw[bP];omega
 have j:(i:Int)<s.size:=by omega
 have l:s[i]=c:=by
  rw[dz (by rw[d];exact b)] at a;injection a with a
 rw[k] at f;have o:=Qe l;go_enter func327,ntmps327;go_wp2;go_quiet ((go_at_call 294;exact Calls.quiet_of (f _)))
 go_wp2;go_ret;exact⟨rfl,(h.drewN nq).go (i+1) _ (by omega),Turns.go _ _⟩
theorem IK (s:ay)(i g:Nat)(c:UInt8)(w:X)(h:iR w g s i)(j:¬s.data.toList[i]? = M c):
 Calls prog 327 #[Q (M ⟨g,0,U⟩),I .u8 (c.toNat:Int)] w fun e w'=>e=Y (.bool F)∧iR w' g s i∧Turns (only g) w w':=by
 have k:s.data.toList.length=s.size:=by rw[aO];rfl
 have a:=fun q=>qL s i g (w.drewN q) (h.drewN q);have m:=h.cells;by_cases b:i<s.size
 . have d:decide (i<s.size)=true:=by rw[bP];omega
   have f:(i:Int)<s.size:=by omega
   have l:s[i]≠c:=by
    intro e;refine j ?_;rw[dz (by rw[k];exact b),<-e];simp[ByteArray.getElem_eq_getElem_data]
   rw[d] at a;have n:=Qd l;go_enter func327,ntmps327;go_wp2;go_quiet ((go_at_call 294;exact Calls.quiet_of (a _)))
   go_wp2;go_ret;exact⟨rfl,h.drewN nq,Turns.drewN _ _ _⟩
 . have d:decide (i<s.size)=F:=by rw[bO];omega
   rw[d] at a;go_enter func327,ntmps327;go_wp2;go_quiet ((go_at_call 294;exact Calls.quiet_of (a _)))
   go_wp2;go_ret;exact⟨rfl,h.drewN nq,Turns.drewN _ _ _⟩
theorem vU (s:ay)(i g:Nat)(c:UInt8)(w:X)(h:iR w g s i)(a:s.size<=1000000)(b:s.data.toList[i]? = M c):
 Calls prog 295 #[Q (M ⟨g,0,U⟩),I .u8 (c.toNat:Int)] w fun e w'=>e=Y (.tuple #[])∧iR w' g s (i+1)∧Turns (only g) w w':=by
 go_enter func295,ntmps295;go_wp2_with fail
 refine(vT s i g c w h a b).mono ?_;rintro e j ⟨rfl,d,f⟩;go_wp2;go_end0
 exact⟨rfl,d,f⟩
theorem Qt (s:ay)(i g:Nat)(c:UInt8)(w:X)(h:iR w g s i)(a:¬s.data.toList[i]? = M c):
 Calls prog 295 #[Q (M ⟨g,0,U⟩),I .u8 (c.toNat:Int)] w fun e w'=>e=gave 5∧Turns (only g) w w':=by
 have b:=H9 (IK s i g c w h a);clear a;go_enter func295,ntmps295;go_wp2_with fail
 refine b.o.mono ?_;rintro e f ⟨rfl,j,d⟩;go_wp2;exact⟨rfl,rfl,d⟩
def xw (w:X)(g:Nat):Nat:=match w.cell? ⟨g,1,U⟩ with
 | some (I _ x)=>x.toNat
 | _=>0
theorem iR.xw {w:X}{g:Nat}{s:ay}{i:Nat}(h:iR w g s i):xw w g=i:=by
 unfold Go.Proofs.YthhklgjjnaeaoaaGreatDoor.xw;rw[h.cells.2.1];simp
theorem Cw (s:ay)(k:Nat)(h:k<s.size):s.data.toList[k]'(by rw[aO];exact h)=s[k]:=by simp[ByteArray.getElem_eq_getElem_data]
theorem KN (c:UInt8):Ch.token (c.toNat:Int)=Pm.tok c:=rfl
theorem Gv (c:UInt8)(w:X):
 Calls prog 325 #[I .u8 (c.toNat:Int)] w fun e w'=>e=Y (.bool (Pm.blank c))∧w'=w:=by
 by_cases a:c=32
 . subst a;go_enter func325,ntmps325;go_wp2;go_ret;exact⟨rfl,rfl⟩
 . have f:((c.toNat:Int)==32)=F:=mU a;by_cases b:c=9
   . subst b;go_enter func325,ntmps325;go_wp2;go_ret;exact⟨rfl,rfl⟩
   . have g:((c.toNat:Int)==9)=F:=mU b;have d:Hid (Pm.blank c=F):=by unfold Hid Pm.blank;rw[aR.2 a,aR.2 b];rfl
     go_enter func325,ntmps325;go_wp2;go_ret;exact⟨iN (by rw[d.o]),rfl⟩
theorem Qu (s:ay)(i g:Nat)(w:X)(h:iR w g s i)(L:s.size<=1000000)(v:i<=s.size):
 Calls prog 324 #[Q (M ⟨g,0,U⟩),.func (.func 270) #[] #[]] w fun e w' =>
  e=Y (V (s.extract i (i+Pm.word s.data.toList i)))∧iR w' g s (i+Pm.word s.data.toList i)∧Turns (only g) w w':=by
 have x:s.data.toList.length=s.size:=by rw[aO];rfl
 have r:=H9 x;have H:=H9 h;obtain⟨y,N,S⟩:=h.cells;go_enter func324,ntmps324;go_wp2;go_loopw [] (fun wr=>∃k:Nat,i<=k∧k<=s.size∧iR wr g s k∧Turns (only g) w wr∧i+Pm.word s.data.toList i=k+Pm.word s.data.toList k) (fun wr=>s.size-xw wr g)
 case atStart=>exact⟨i,aM _,v,H.o,Turns.refl _ _,rfl⟩
 case round =>
  obtain⟨k,z,T,h,B,C⟩:=hrel;have c:=fun q=>qL s k g (wr.drewN q) (h.drewN q);have m:=H9 B;have n:=H9 C;have y:=h.cells;have D:=H9 h.xw;by_cases d:k<s.size
  . have p:decide (k<s.size)=true:=by rw[bP];omega
    have t:(k:Int)<s.size:=by omega
    have f:k<s.data.toList.length:=by rw[r.o];exact d
    have j:=Cw s k d;rw[p] at c;cases a:Pm.tok s[k]
    . have b:Hid (i+Pm.word s.data.toList i=k):=by
       unfold Hid;rw[n.o];unfold Pm.word;rw[Pm.JN f (by rw[j];exact a)];rfl
      have l:=fun W=>wS (s[k].toNat:Int) W;rw[KN,a] at l;have G:(i:Int)<=k:=by omega
      have e2:(k:Int)<=s.size:=by omega
      go_wp2;go_quiet ((first | (go_at_call 294;exact Calls.quiet_of (c _)) | (go_at_call 270;exact Calls.quiet_of_same (l _))))
      go_wp2;go_quiet (fail)
      go_wp2;go_ret;exact⟨yU (by rw[b.o]),by rw[b.o];exact h,(m.o.trans (Turns.drewN (only g) _ _) (fun _ h _=>h)).trans (Turns.drewN (only g) _ _) (fun _ h _=>h)⟩
    . have b:Hid (i+Pm.word s.data.toList i=(k+1)+Pm.word s.data.toList (k+1)):=by
       unfold Hid;rw[n.o];unfold Pm.word;rw[Pm.JM f (by rw[j];exact a)];omega
      have l:=fun W=>wS (s[k].toNat:Int) W;rw[KN,a] at l;go_wp2;go_quiet ((first | (go_at_call 294;exact Calls.quiet_of (c _)) | (go_at_call 270;exact Calls.quiet_of_same (l _))))
      go_wp2;have u:=(h.drewN nq).go (k+1) ((k:Int)+1) (by omega);go_roundw
      case rel=>exact⟨k+1,by omega,by omega,u,m.o.trans (Turns.go _ _) (fun _ h _=>h),b.o⟩
      case measure=>rw[u.xw,D.o];omega
  . obtain rfl:k=s.size:=by omega
    have p:decide (s.size<s.size)=F:=by rw[bO];omega
    have b:Hid (i+Pm.word s.data.toList i=s.size):=by
     unfold Hid;rw[n.o];unfold Pm.word;rw[Pm.run_end _ (by rw[r.o];exact aM _)];rfl
    rw[p] at c;have G:(i:Int)<=s.size:=by omega
    go_wp2;go_quiet ((go_at_call 294;exact Calls.quiet_of (c _)))
    go_wp2;go_quiet (fail)
    go_wp2;go_ret;exact⟨yU (by rw[b.o]),by rw[b.o];exact h,(m.o.trans (Turns.drewN (only g) _ _) (fun _ h _=>h)).trans (Turns.drewN (only g) _ _) (fun _ h _=>h)⟩
theorem RZ (s:ay)(i g:Nat)(w:X)(h:iR w g s i)(L:s.size<=1000000)(v:i<=s.size):
 Calls prog 324 #[Q (M ⟨g,0,U⟩),.func (.func 325) #[] #[]] w fun e w' =>
  e=Y (V (s.extract i (i+Pm.run Pm.blank s.data.toList i)))∧iR w' g s (i+Pm.run Pm.blank s.data.toList i)∧Turns (only g) w w':=by
 have x:s.data.toList.length=s.size:=by rw[aO];rfl
 have r:=H9 x;have H:=H9 h;obtain⟨y,N,S⟩:=h.cells;go_enter func324,ntmps324;go_wp2;go_loopw [] (fun wr=>∃k:Nat,i<=k∧k<=s.size∧iR wr g s k∧Turns (only g) w wr∧i+Pm.run Pm.blank s.data.toList i=k+Pm.run Pm.blank s.data.toList k) (fun wr=>s.size-xw wr g)
 case atStart=>exact⟨i,aM _,v,H.o,Turns.refl _ _,rfl⟩
 case round =>
  obtain⟨k,z,T,h,B,C⟩:=hrel;have c:=fun q=>qL s k g (wr.drewN q) (h.drewN q);have m:=H9 B;have n:=H9 C;have y:=h.cells;have D:=H9 h.xw;by_cases d:k<s.size
  . have p:decide (k<s.size)=true:=by rw[bP];omega
    have t:(k:Int)<s.size:=by omega
    have f:k<s.data.toList.length:=by rw[r.o];exact d
    have j:=Cw s k d;rw[p] at c;cases a:Pm.blank s[k]
    . have b:Hid (i+Pm.run Pm.blank s.data.toList i=k):=by
       unfold Hid;rw[n.o];rw[Pm.JN f (by rw[j];exact a)];rfl
      have l:=fun W=>Gv s[k] W;rw[a] at l;have G:(i:Int)<=k:=by omega
      have e2:(k:Int)<=s.size:=by omega
      go_wp2;go_quiet ((first | (go_at_call 294;exact Calls.quiet_of (c _)) | (go_at_call 325;exact Calls.quiet_of_same (l _))))
      go_wp2;go_quiet (fail)
      go_wp2;go_ret;exact⟨yU (by rw[b.o]),by rw[b.o];exact h,(m.o.trans (Turns.drewN (only g) _ _) (fun _ h _=>h)).trans (Turns.drewN (only g) _ _) (fun _ h _=>h)⟩
    . have b:Hid (i+Pm.run Pm.blank s.data.toList i=(k+1)+Pm.run Pm.blank s.data.toList (k+1)):=by
       unfold Hid;rw[n.o];rw[Pm.JM f (by rw[j];exact a)];omega
      have l:=fun W=>Gv s[k] W;rw[a] at l;go_wp2;go_quiet ((first | (go_at_call 294;exact Calls.quiet_of (c _)) | (go_at_call 325;exact Calls.quiet_of_same (l _))))
      go_wp2;have u:=(h.drewN nq).go (k+1) ((k:Int)+1) (by omega);go_roundw
      case rel=>exact⟨k+1,by omega,by omega,u,m.o.trans (Turns.go _ _) (fun _ h _=>h),b.o⟩
      case measure=>rw[u.xw,D.o];omega
  . obtain rfl:k=s.size:=by omega
    have p:decide (s.size<s.size)=F:=by rw[bO];omega
    have b:Hid (i+Pm.run Pm.blank s.data.toList i=s.size):=by
     unfold Hid;rw[n.o];rw[Pm.run_end _ (by rw[r.o];exact aM _)];rfl
    rw[p] at c;have G:(i:Int)<=s.size:=by omega
    go_wp2;go_quiet ((go_at_call 294;exact Calls.quiet_of (c _)))
    go_wp2;go_quiet (fail)
    go_wp2;go_ret;exact⟨yU (by rw[b.o]),by rw[b.o];exact h,(m.o.trans (Turns.drewN (only g) _ _) (fun _ h _=>h)).trans (Turns.drewN (only g) _ _) (fun _ h _=>h)⟩
theorem rG (s:ay)(i g:Nat)(w:X)(h:iR w g s i)(a:s.size<=1000000)(b:i<=s.size):
 Calls prog 292 #[Q (M ⟨g,0,U⟩)] w fun e w'=>e=Y (.tuple #[])∧iR w' g s (Pm.blanks s.data.toList i)∧Turns (only g) w w':=by
 have c:=H9 (RZ s i g w h a b);go_enter func292,ntmps292;go_wp2_with fail
 refine c.o.mono ?_;rintro e j ⟨rfl,d,f⟩;go_wp2;go_end0
 exact⟨rfl,d,f⟩
theorem wW (s:ay)(i g:Nat)(w:X)(h:iR w g s i)(f:s.size<=1000000)(b:i<=s.size)(p:Pm.word s.data.toList i≠0):
 Calls prog 326 #[Q (M ⟨g,0,U⟩)] w fun e w'=>e=Y (V (s.extract i (i+Pm.word s.data.toList i)))∧iR w' g s (i+Pm.word s.data.toList i)∧Turns (only g) w w':=by
 have j:=Qu s i g w h f b;have c:=Pm.yJ s.data.toList i (by rw[aO];exact b);rw[aO] at c;have k:i+Pm.word s.data.toList i<=s.size:=c;have a:=Ch.mP (s.extract i (i+Pm.word s.data.toList i)) (by simp;omega);have d:((s.extract i (i+Pm.word s.data.toList i)).toList==[])=F:=by
  cases l:(s.extract i (i+Pm.word s.data.toList i)).toList with
  | nil=>rw[l] at a;cases a
  | cons _ _=>rfl
 generalize Pm.word s.data.toList i=n at *;generalize s.extract i (i+n)=x at *;go_enter func326,ntmps326;go_wp2_with fail
 refine j.mono ?_;rintro e q ⟨rfl,m,o⟩;go_wp2;go_ret;exact⟨rfl,m,o⟩
theorem zx (s:ay)(i g:Nat)(w:X)(h:iR w g s i)(b:s.size<=1000000)(c:i<=s.size)(d:Pm.word s.data.toList i=0):
 Calls prog 326 #[Q (M ⟨g,0,U⟩)] w fun e w'=>e=gave 5∧Turns (only g) w w':=by
 have a:=Qu s i g w h b c;have f:s.extract i (i+Pm.word s.data.toList i)=⟨#[]⟩:=Ch.empty_eq _ (by rw[d];simp);rw[f] at a;go_enter func326,ntmps326;go_wp2_with fail
 refine a.mono ?_;rintro e k ⟨rfl,l,j⟩;go_wp2;exact⟨rfl,rfl,j⟩
theorem Gw (s:ay)(i g:Nat)(w:X)(h:iR w g s i)(m:s.size<=1000000)(o:i<s.size):
 Calls prog 346 #[Q (M ⟨g,0,U⟩)] w fun e w'=>e=Y (I .u8 (s[i].toNat:Int))∧iR w' g s (i+1)∧Turns (only g) w w':=by
 have a:=qL s i g w h;have j:decide (i<s.size)=true:=by rw[bP];omega
 rw[j] at a;go_enter func346,ntmps346;go_wp2_with fail
 refine a.mono ?_;rintro e b ⟨rfl,n,c⟩;have d:iR b g s i:=by rw[c];exact h.drewN n
 have k:Turns (only g) w b:=by rw[c];exact Turns.drewN _ _ _
 clear c  a;have p:=d.cells;have f:=d.go (i+1) ((i:Int)+1) (by omega);have l:Turns (only g) w (b.setCell ⟨g,1,U⟩ (I J ((i:Int)+1))):=k.trans (Turns.setCell (only g) _ _ _ rfl) (fun _ h _=>h);have q:=f.cells.1;have r:(i:Int)+1-1=i:=by omega
 have t:(i:Int)<s.size:=by omega
 go_wp2;go_quiet (fail)
 go_wp2;go_ret;exact⟨rfl,f.drewN nq,l.trans (Turns.drewN (only g) _ _) (fun _ h _=>h)⟩
theorem KO (s:ay)(i g:Nat)(w:X)(h:iR w g s i)(j:¬i<s.size):
 Calls prog 346 #[Q (M ⟨g,0,U⟩)] w fun e w'=>e=gave 14∧Turns (only g) w w':=by
 have a:=qL s i g w h;have c:decide (i<s.size)=F:=by rw[bO];omega
 rw[c] at a;go_enter func346,ntmps346;go_wp2_with fail
 refine a.mono ?_;rintro e d ⟨rfl,n,b⟩;have f:Turns (only g) w d:=by rw[b];exact Turns.drewN _ _ _
 clear b;go_wp2;exact⟨rfl,rfl,f⟩
def vV (m:Option (av×av))(w:X)(g:Nat)(s:ay)(e:Ending)(w':X):Prop :=
 Turns (only g) w w'∧match m with
  | none=>e=gave 14
  | some x=>e=Y (V ⟨x.1.toArray⟩)∧∃j,j<=s.size∧iR w' g s j∧s.data.toList.drop j=x.2
theorem vV.no {m:Option (av×av)}{w:X}{g:Nat}{s:ay}{w':X}(a:m=U)(b:Turns (only g) w w'):vV m w g s (gave 14) w':=by
 subst a;exact⟨b,rfl⟩
theorem vV.yes {m:Option (av×av)}{w:X}{g:Nat}{s:ay}{v r:av}{e:Ending}{w':X}{j:Nat}(a:m=M (v,r))(b:e=Y (V ⟨v.toArray⟩))(c:j<=s.size)(d:iR w' g s j)(hd:s.data.toList.drop j=r)(f:Turns (only g) w w'):vV m w g s e w':=by
 subst a;exact⟨f,b,j,c,d,hd⟩
structure DZ (w:X)(g:Nat)(s:ay)(k:Nat)(acc:av)(ao:ak)(cap:Nat)(wr:X):Prop where
 rd:iR wr g s k
 own:iA wr w.heap.size 5 ao cap acc
 turns:Turns (only g) w wr
 lt:g<w.heap.size
section
variable {w wr w1 w3:X} {g k k':Nat} {s:ay} {acc acc':av} {ao gJ:ak} {cap cap':Nat}
theorem DZ.feed (h:DZ w g s k acc ao cap wr)(c:iR w1 g s k')(b:Turns (only g) wr w1):DZ w g s k' acc ao cap w1 :=
 ⟨c,h.own.turns b (fun a e d=>by have:=(h.own.block a e).1;have:=h.lt;unfold only at d;omega),h.turns.trans b (fun _ h _=>h),h.lt⟩
theorem DZ.push (h:DZ w g s k acc ao cap wr)(b:Obj)(d:iA w3 w.heap.size 5 gJ cap' acc')(f:(wr.alloc b).grownBy w3 (fV ao)):DZ w g s k acc' gJ cap' w3:=by
 have j:∀i,fV ao=M i->w.heap.size<=i:=by
  intro i e;cases ao with
  | none=>simp[fV] at e
  | some a=>simp only[fV,bS] at e;have:=(h.own.block a rfl).1;omega
 have c:=(Turns.iL (fJ wr b U) (fun k e=>by cases e)).trans (Turns.iL f j) (fun _ h _=>h);exact⟨h.rd.turns c (by have:=h.lt;omega),d,h.turns.trans c (fun i m l=>by omega),h.lt⟩
end
theorem gN.Qv (W:X)(c:UInt8)(t:Nat)(a:Nat×Nat){k:Nat}(b:W.heap.size=k):gN (W.alloc (K #[I .u8 (c.toNat:Int)] t a)) (M ⟨k,0,U⟩) 1 [c]:=b▸gN.one W c t a
theorem Nw (s:ay)(i g:Nat)(w:X)(h:iR w g s i)(hs:s.size<=1000000)(hi:i<=s.size):
 Calls prog 328 #[Q (M ⟨g,0,U⟩)] w fun e w'=>vV (Pm.quo [] (s.data.toList.drop i)) w g s e w':=by
 have hl:s.data.toList.length=s.size:=by rw[aO];rfl
 have B:=H9 hl;obtain⟨i0,G,H,L,N⟩:=info_parts jJ;have Hi:=G;have kY:=H9 H;have kT:=H9 L;have kZ:=H9 N
 go_enter func328,ntmps328;go_wp2;go_loopw [3] (fun t wr=>∃(k:Nat) (a:av) (S:ak) (q:Nat),k<=s.size∧a.length<=k∧t=Z S a.length q∧DZ w g s k a S q wr∧Pm.quo [] (s.data.toList.drop i)=Pm.quo a (s.data.toList.drop k)) (fun _ wr=>s.size-xw wr g)
 case atStart=>exact⟨i,[],U,0,hi,aA _,rfl,⟨h,iA.nil _ _ _,Turns.refl _ _,h.lt⟩,rfl⟩
 case round =>
  obtain⟨k,a,S,q,hk,hal,rfl,hA,hq⟩:=hrel;have C:=H9 hA;have Zi:=H9 hA.rd.xw;have x:=H9 hq;by_cases n:k<s.size
  . have D:Hid (s.data.toList.drop k=s[k]::s.data.toList.drop (k+1)):=by
     unfold Hid;rw[aD (by rw[B.o];exact n),Cw s k n]
    go_wp2_with fail
    refine(Gw s k g _ C.o.rd hs n).mono ?_;rintro e w1 ⟨rfl,T,r⟩;have b:=C.o.feed T r;generalize s[k]=c at *;by_cases W:c=34
    . subst W;have p:Pm.quo [] (s.data.toList.drop i)=M (a,s.data.toList.drop (k+1)):=by rw[x.o,D.o,Pm.PV]
      have uN:=b.own.tQ.str (P:=prog) 31 9 5 underlying31 underlying5 underlying9;go_wp2;go_ret;exact vV.yes p rfl (by omega) b.rd rfl b.turns
    . have t34:((c.toNat:Int)==34)=F:=mU W;by_cases u:c=92
      . subst u;by_cases f:k+1<s.size
        . have HD2:Hid (s.data.toList.drop (k+1)=s[k+1]::s.data.toList.drop (k+2)):=by
           unfold Hid;rw[aD (by rw[B.o];exact f),Cw s (k+1) f]
          have p:Hid (Pm.quo [] (s.data.toList.drop i)=Pm.quo (a++[s[k+1]]) (s.data.toList.drop (k+2))):=by
           unfold Hid;rw[x.o,D.o,HD2.o,Pm.JQ]
          go_wp2_with fail
          refine(Gw s (k+1) g _ b.rd hs f).mono ?_;rintro e w2 ⟨rfl,T,r⟩;have v:=b.feed T r;generalize s[k+1]=d at *;go_wp2_with (at_builtin;refine jP rfl (.tmp 15) (.tmp 17) 31 rfl w.heap.size 5 i0 underlying31 Hi kY.o kT.o kZ.o (l:=a) (l2:=[d]) rfl rfl (v.own.alloc _) rfl rfl (gN.Qv _ _ _ _ (by simp)) (by simp;omega) (by have:=v.turns.size;simp;omega) ?_;intro kI gZ w3 j m jQ;have y:=H9 (v.push _ j m);clear j m jQ)
          go_roundw
          case rel=>exact⟨k+2,a++[d],kI,gZ,by omega,by rw[aV];simp;omega,by rw[aV];rfl,y.o,p.o⟩
          case measure=>rw[y.o.rd.xw,Zi.o];omega
        . have p:Hid (Pm.quo [] (s.data.toList.drop i)=U):=by
           unfold Hid;rw[x.o,D.o,aK (show s.data.toList.length<=k+1 by rw[B.o];omega),Pm.yI]
          go_wp2_with fail
          refine(KO s (k+1) g _ b.rd f).mono ?_;rintro e w2 ⟨z,r⟩;unfold gave at z;subst z;have HT:=b.turns.trans r (fun _ h _=>h);go_wp2;exact⟨rfl,vV.no p.o HT⟩
      . have t92:((c.toNat:Int)==92)=F:=mU u;have p:Hid (Pm.quo [] (s.data.toList.drop i)=Pm.quo (a++[c]) (s.data.toList.drop (k+1))):=by
         unfold Hid;rw[x.o,D.o,Pm.JR _ _ _ W u]
        go_wp2_with (at_builtin;refine jP rfl (.tmp 15) (.tmp 17) 31 rfl w.heap.size 5 i0 underlying31 Hi kY.o kT.o kZ.o (l:=a) (l2:=[c]) rfl rfl (b.own.alloc _) rfl rfl (gN.Qv _ _ _ _ (by simp)) (by simp;omega) (by have:=b.turns.size;simp;omega) ?_;intro kI gZ w3 j m jQ;have y:=H9 (b.push _ j m);clear j m jQ)
        go_roundw
        case rel=>exact⟨k+1,a++[c],kI,gZ,by omega,by rw[aV];simp;omega,by rw[aV];rfl,y.o,p.o⟩
        case measure=>rw[y.o.rd.xw,Zi.o];omega
  . have p:Hid (Pm.quo [] (s.data.toList.drop i)=U):=by
     unfold Hid;rw[x.o,aK (show s.data.toList.length<=k by rw[B.o];omega),Pm.Ia]
    go_wp2_with fail
    refine(KO s k g _ C.o.rd n).mono ?_;rintro e w2 ⟨z,r⟩;unfold gave at z;subst z;have HT:=C.o.turns.trans r (fun _ h _=>h);go_wp2;exact⟨rfl,vV.no p.o HT⟩
structure jF (w:X)(S:Nat->Prop)(g:Nat)(ao:ak)(cap:Nat)(bo:ak)(bc:Nat)(t:Fm.Td):Prop where
 row:w.heap[g]? = M (K #[Z ao t.es.length cap,Z bo t.bs.length bc] 315 (0,0))
 all:oC w (fun k=>(S k∧k≠g)∧fV bo≠M k) 98 ao cap t.es
 own:iA w 0 5 bo bc t.bs
 mem:∀a,bo=M a->S a.block∧a.block≠g
 me:S g
section
variable {w w':X} {S S':Nat->Prop} {g:Nat} {ao bo:ak} {cap bc:Nat} {t:Fm.Td}
theorem jF.lt (h:jF w S g ao cap bo bc t):g<w.heap.size:=(aL.1 h.row).1
theorem jF.c0 (h:jF w S g ao cap bo bc t):w.cell? ⟨g,0,U⟩=M (Z ao t.es.length cap):=eZ w g 0 _ _ _ h.row
theorem jF.c1 (h:jF w S g ao cap bo bc t):w.cell? ⟨g,1,U⟩=M (Z bo t.bs.length bc):=eZ w g 1 _ _ _ h.row
theorem jF.turns (h:jF w S g ao cap bo bc t)(b:Turns S' w w')(c:∀k,S k->¬S' k):jF w' S g ao cap bo bc t :=
 ⟨b.row h.row (c g h.me),h.all.turns b (fun k e=>c k e.1.1),h.own.turns b (fun a e=>c _ (h.mem a e).1),h.mem,h.me⟩
theorem jF.mono (h:jF w S g ao cap bo bc t)(b:∀k,k<w.heap.size->S k->S' k):jF w S' g ao cap bo bc t :=
 ⟨h.row,h.all.mono (fun k c e=>⟨⟨b k c e.1.1,e.1.2⟩,e.2⟩),h.own,fun a e=>⟨b _ (h.own.block a e).2 (h.mem a e).1,(h.mem a e).2⟩,b g h.lt h.me⟩
theorem jF.stay (h:jF w S g ao cap bo bc t)(a:Below w.heap.size w w'):jF w' S g ao cap bo bc t:=h.turns (Turns.of_below (S:=fun _=>False) a) (fun _ _ e=>e)
end
theorem jF.made (w:X):jF (w.alloc (K #[Z U 0 0,Z U 0 0] 315)) (fun k=>w.heap.size<=k) w.heap.size U 0 U 0 Fm.EX :=
 ⟨eX w _,oC.nil _ _ _,iA.nil _ _ _,fun a e=>(by cases e),aM _⟩
def mK (w:X)(S:Nat->Prop)(g:Nat)(t:Fm.Td):Prop:=∃ao cap bo bc,jF w S g ao cap bo bc t
section
variable {w w':X} {S S':Nat->Prop} {g:Nat} {t:Fm.Td}
theorem mK.turns (h:mK w S g t)(e:Turns S' w w')(f:∀k,S k->¬S' k):mK w' S g t:=by obtain⟨a,b,c,d,h⟩:=h;exact⟨a,b,c,d,h.turns e f⟩
theorem mK.mono (h:mK w S g t)(e:∀k,k<w.heap.size->S k->S' k):mK w S' g t:=by obtain⟨a,b,c,d,h⟩:=h;exact⟨a,b,c,d,h.mono e⟩
theorem mK.stay (h:mK w S g t)(e:Below w.heap.size w w'):mK w' S g t:=by obtain⟨a,b,c,d,h⟩:=h;exact⟨a,b,c,d,h.stay e⟩
end
theorem oC.push {W:X}{S:Nat->Prop}{f:Nat}{ao:ak}{cap:Nat}{es:List iH}(h:oC W S f ao cap es)(g:Obj):∃i:List (iH×EvS),gH (W.alloc g) 0 f 12 ao cap es.length (iY i) ∧
 ∀gJ b w' (e:iH) s (N:Nat->Prop) j,e.cells s=j->BQ W N e s->s.po=U∧s.jh=0->(∀k,S k->¬N k)->gH w' 0 f 12 gJ b (es.length+1) (iY i++j)->(W.alloc g).grownBy w' (fV ao)->(fV gJ=fV ao∨fV gJ=M (W.alloc g).heap.size)->oC w' (fun k=>S k∨N k∨W.heap.size<=k) f gJ b (es++[e])∧Turns S W w':=by
 obtain⟨i,c,u,o,v,w⟩:=h;have l:Below W.heap.size W (W.alloc g):=(eY _ _).alloc (aM _) _;have q:=Turns.of_below (S:=fun _=>False) l;refine⟨i,u.stay l,fun gJ b w' e s N j x y m z r t n=>?_⟩;subst x;have B:iY [(e,s)]=e.cells s:=by simp[iY]
 rw[<-B] at r;have:=oC.more (N:=N) o (fun p d=>(v p d).turns q (fun _ _ e=>e)) (ps2:=[(e,s)]) (fun p d=>by rw[bA.1 d];exact y.turns q (fun _ _ e=>e)) z r (by rw[<-c,aF];rfl) t n w (fun p d=>by rw[bA.1 d];exact m);refine⟨?_,?_⟩
 . rw[c] at this;refine this.mono (fun k C e=>?_);rcases e with e | e | e
   . exact Or.inl e
   . exact Or.inr (Or.inl e)
   . rw[fG] at e;exact Or.inr (Or.inr (by omega))
 . refine(Turns.of_below (S:=S) l).trans (Turns.iL (S:=S) t (fun k e=>?_)) (fun _ e _=>e);cases ao with
   | none=>cases e
   | some a=>injection e with e;subst e;exact o a rfl
theorem Ji:(prog.info? 98).map (fun i=>(i.zero,i.size,i.bytes))=M (M (.agg #[I J 0,V ⟨#[]⟩,V ⟨#[]⟩,I J 0,Z U 0 0,I J 0,Z U 0 0,V ⟨#[]⟩,V ⟨#[]⟩,V ⟨#[]⟩,Z U 0 0,I J 0]),12,184):=by kernel_rfl
structure Jj (w:X)(S N:Nat->Prop)(e:iH)(s:EvS):Prop where
 fields:nN w (fun k=>N k∧lastB e s≠M k) s.fo s.fZ e.fields.length (gG e.fields)
 gT:jI w (fun k=>N k∧lastB e s≠M k) s.po s.jh e.gT
 bytes:gK w N 5 s.bo s.fU e.bytes
 apart:∀k,S k->¬N k
theorem Jj.stay {w w':X}{S N:Nat->Prop}{e:iH}{s:EvS}(h:Jj w S N e s)(b:Below w.heap.size w w'):Jj w' S N e s :=
 have a:=Turns.of_below (S:=fun _=>False) b
 ⟨h.fields.turns a (fun _ _ k=>k),h.gT.turns a (fun _ _ k=>k),h.bytes.turns a (fun _ _ k=>k),h.apart⟩
inductive uH (w:X)(S N:Nat->Prop)(es:List iH)(e:iH)(v:Ending)(w':X):Prop
 | mk (ao:ak) (cap:Nat) (hv:v=Y (Z ao (es.length+1) cap)) (hO:jD w' (fun k=>S k∨N k∨w.heap.size<=k) 98 5 ao cap (es++[e])) (hT:Turns S w w')
structure QN (w:X)(S N:Nat->Prop)(ao:ak)(ps:List (iH×EvS))(es:List iH)(e:iH)(s:EvS):Prop where
 es:ps.map (·.1)=es
 mem:∀a,ao=M a->S a.block
 ins:∀p∈ps,BQ w (fun k=>S k∧fV ao≠M k) p.1 p.2
 new:Jj w S N e s
theorem uH.of {w g:X}{S N:Nat->Prop}{ao d:ak}{i n:Nat}{f:List (iH×EvS)}{es:List iH}{e:iH}{s:EvS}{x y:Obj}
 (h:QN w S N ao f es e s) (q:gH g 0 98 12 d i (n+1) (iY f++e.cells s)) (o:((w.alloc x).alloc y).grownBy g (fV ao)) (l:fV d=fV ao∨fV d=M ((w.alloc x).alloc y).heap.size) (r:n=es.length:=by rfl) :
 uH w S N es e (Y (Z d (n+1) i)) g:=by
 subst r;have j:Below w.heap.size w ((w.alloc x).alloc y):=((eY _ _).alloc (aM _) _).alloc (by simp) _;have t:=Turns.of_below (S:=fun _=>False) j;have u:es.length=f.length:=by rw[<-h.es];simp
 have m:∀p∈f,BQ ((w.alloc x).alloc y) (fun k=>S k∧fV ao≠M k) p.1 p.2:=fun p v=>(h.ins p v).turns t (fun _ _ k=>k);have b:=h.new.stay j;have z:gH g 0 98 12 d i (f.length+1) (iY (f++[(e,s)])):=by
  rw[nR,<-u];have B:iY [(e,s)]=e.cells s:=by simp[iY]
  rw[B];exact q
 have C:=jD.more (tb:=5) h.mem m b.fields b.gT b.bytes b.apart z rfl o l;refine .mk d i rfl ?_ ?_
 . rw[<-h.es];refine C.mono (fun k _ c=>?_);rcases c with c | c | c
   . exact Or.inl c
   . exact Or.inr (Or.inl c)
   . refine Or.inr (Or.inr ?_);rw[c];exact j.size
 . refine(Turns.of_below (S:=S) j).trans (Turns.iL (S:=S) o (fun k c=>?_)) (fun _ k _=>k);cases ao with
   | none=>cases c
   | some a=>injection c with c;subst c;exact h.mem a rfl
theorem TP (w:X)(S N:Nat->Prop)(ao:ak)(cap:Nat)(es:List iH)(e:iH)(s:EvS)(h:jD w S 98 5 ao cap es)(j:Jj w S N e s)(B:es.length<=1000000)(k:e.kind≠2):
 Calls prog 138 #[Z ao es.length cap,.agg #[I J e.kind,V e.method,V e.target,I J e.minor,Z s.fo e.fields.length s.fZ,I J e.length,Z s.bo e.bytes.length s.fU,V e.kK,V e.ku,V e.ptype,Z s.po e.gT.length s.jh,I J e.code]] w fun v w'=>uH w S N es e v w':=by
 have C:=aR.2 k;obtain⟨l,a,m,n,p⟩:=h.own;have q:QN w S N ao l es e s:=⟨a,n,p,j⟩;obtain⟨r,b,c,d,f⟩:=info_parts Ji;have t:=b;have u:=H9 c;have x:=H9 d;have y:=H9 f
 go_enter func138,ntmps138;go_wp2_with (at_builtin;go_loud (refine gP rfl (.tmp 37) (.tmp 39) 58 rfl 0 98 r (.agg #[I J 0,V ⟨#[]⟩,V ⟨#[]⟩,I J 0,Z U 0 0,I J 0,Z U 0 0,V ⟨#[]⟩,V ⟨#[]⟩,V ⟨#[]⟩,Z U 0 0,I J 0]) 12 184 underlying58 t u.o x.o y.o rfl (by decide) rfl ((m.alloc _).alloc _) rfl (iH.made e s _ _ _ (by simp)) rfl (cells_one e s) (by omega) (by omega) (aA _) ?_;intro D G H g i z))
 go_ret;exact uH.of q g i z
theorem TQ (w:X)(S N:Nat->Prop)(e:iH)(s:EvS)(j:Jj w S N e s)(l:e.kind=2):
 Calls prog 138 #[Z U 0 0,.agg #[I J e.kind,V e.method,V e.target,I J e.minor,Z s.fo e.fields.length s.fZ,I J e.length,Z s.bo e.bytes.length s.fU,V e.kK,V e.ku,V e.ptype,Z s.po e.gT.length s.jh,I J e.code]] w fun v w'=>uH w S N [] e v w':=by
 have C:=aS.2 l;have m:QN w S N U [] [] e s:=⟨rfl,(fun a k=>by cases k),(fun p q=>by cases q),j⟩;have r:=gH.nil w 0 98 12;obtain⟨t,b,c,d,f⟩:=info_parts Ji;have u:=b;have x:=H9 c;have y:=H9 d;have z:=H9 f
 clear b c d f j l;go_enter func138,ntmps138;go_wp2_with (at_builtin;go_loud (refine gP rfl (.tmp 37) (.tmp 39) 58 rfl 0 98 t (.agg #[I J 0,V ⟨#[]⟩,V ⟨#[]⟩,I J 0,Z U 0 0,I J 0,Z U 0 0,V ⟨#[]⟩,V ⟨#[]⟩,V ⟨#[]⟩,Z U 0 0,I J 0]) 12 184 underlying58 u x.o y.o z.o rfl (by decide) rfl ((r.alloc _).alloc _) rfl (iH.made e s _ _ _ (by simp)) rfl (cells_one e s) (by omega) (by omega) (aA _) ?_;intro D G H g i B))
 go_ret;exact uH.of (n:=0) m g i B
theorem OW (w:X)(S N:Nat->Prop)(ao:ak)(cap m:Nat)(es:List iH)(e:iH)(s:EvS)(h:jD w S 98 5 ao cap es)(z:Jj w S N e s)(g:es.length=m+1)(hl:m<=1000000)(B:e.kind=2)(C:∀x,es.getLast? = M x->x.kind≠2):
 Calls prog 138 #[Z ao (m+1) cap,.agg #[I J e.kind,V e.method,V e.target,I J e.minor,Z s.fo e.fields.length s.fZ,I J e.length,Z s.bo e.bytes.length s.fU,V e.kK,V e.ku,V e.ptype,Z s.po e.gT.length s.jh,I J e.code]] w fun v w'=>uH w S N es e v w':=by
 have k2:=aS.2 B;obtain⟨c,d,q,D,G⟩:=h.own;have i:c.length=m+1:=by rw[<-g,<-d];simp
 have r:=q.qE;obtain⟨b,o,t,H⟩:=r.lit (by rw[nQ];omega);have a:w.cell? ⟨b,o+m*12,U⟩=M (I J c[m].1.kind):=H (m*12) _ (by
  have:=sJ c m (by omega) 0 (by omega);rw[bI] at this;rw[this];rfl)
 have f:c[m].1.kind≠2:=C _ (by
  have T:c[c.length-1]? = M c[m]:=by rw[show c.length-1=m by omega,dz (by omega)]
  rw[<-d,List.getLast?_map,List.getLast?_eq_getElem?,T];rfl)
 generalize c[m].1.kind=W at a f;have kx2:=aR.2 f;have c0:(w.alloc (K #[I J e.kind,V e.method,V e.target,I J e.minor,Z s.fo e.fields.length s.fZ,I J e.length,Z s.bo e.bytes.length s.fU,V e.kK,V e.ku,V e.ptype,Z s.po e.gT.length s.jh,I J e.code] 98)).cell? ⟨b,o+m*12,U⟩=M (I J W):=((eY _ w).alloc (aM _) _).cell (fH w _ a)▸a;have L:m+1<=cap:=by have:=r.1;rwa[g] at this
 rw[g] at q;subst t;have HP:QN w S N (M ⟨b,o,U⟩) c es e s:=⟨d,D,G,z⟩;have HO:=q;have HM:=H9 g
 obtain⟨i0,j,k,l,p⟩:=info_parts Ji;have Hi:=j;have kY:=H9 k;have kT:=H9 l;have kZ:=H9 p
 clear j k l p h z d q D G B r H a f C g i;go_enter func138,ntmps138;go_wp2_with (at_builtin;go_loud (refine gP rfl (.tmp 37) (.tmp 39) 58 rfl 0 98 i0 (.agg #[I J 0,V ⟨#[]⟩,V ⟨#[]⟩,I J 0,Z U 0 0,I J 0,Z U 0 0,V ⟨#[]⟩,V ⟨#[]⟩,V ⟨#[]⟩,Z U 0 0,I J 0]) 12 184 underlying58 Hi kY.o kT.o kZ.o rfl (by decide) rfl ((HO.alloc _).alloc _) rfl (iH.made e s _ _ _ (by simp)) rfl (cells_one e s) (by omega) (by omega) (aA _) ?_;intro kI gZ w3 u y jQ))
 go_ret;exact uH.of (n:=m+1) HP u y jQ HM.o.symm
theorem pU.cap_ {w:X}{ao:ak}{cap:Nat}{l:List Sp.Up}(h:pU w ao cap l):l.length<=cap:=by
 obtain⟨b,_,a,_⟩:=h;exact a.1
inductive Jw (l1 l2:List Sp.Up)(w:X)(e:Ending)(w':X):Prop
 | mk (b:Bool) (q:Nat) (he:e=Y (.bool b)) (hb:l1=l2->b=true) (hw:w'=w.drewN q)
theorem Yh {a b:ay}(h:¬a=b):(a.toList==b.toList)=F:=by
 rw[Lib.toList_data,Lib.toList_data,aR];intro e;apply h;cases a;cases b;simp at e;rw[e]
theorem Ms (b l2:List Sp.Up)(a1 a2:ak)(c1 c2 g v:Nat)(w:X)(L:pU w a1 c1 b)(N:pU w a2 c2 l2)(c:b.length=g)(d:l2.length=v)(hN:g<=1000000):
 Calls prog 19 #[Z a1 g c1,Z a2 v c2] w (Jw b l2 w):=by
 have H1:=H9 L;have H2:=H9 N
 have S:=L.cap_;have T:=N.cap_
 clear L N;by_cases hl:g=v
 . subst hl;rw[c] at S;rw[d] at T;have l:=H9 c;have m:=H9 d
   clear c d;go_enter func19,ntmps19;go_wp2;go_loopw [5] (fun t wr=>∃k q:Nat,k<=g∧t=I J k∧wr=w.drewN q) (fun t _=>g-(intOf t).toNat)
   case atStart=>exact⟨0,0,aA _,rfl,rfl⟩
   case round =>
    obtain⟨k,q,hk,rfl,rfl⟩:=hrel;by_cases r:k<g
    . have e1:(k:Int)<g:=by omega
      have g1:k<b.length:=by rw[l.o];exact r
      have g2:k<l2.length:=by rw[m.o];exact r
      obtain⟨b1,o1,x,rfl,x0,x1,x2,x3,x4,x5⟩:=H1.o.at_ k g1;obtain⟨b2,o2,y,rfl,y0,y1,y2,y3,y4,y5⟩:=H2.o.at_ k g2;have i:Hid (∀n,Calls prog 17 #[Z x.bo b[k].bytes.length x.fU,Z y.bo l2[k].bytes.length y.fU] (w.drewN n) fun e w'=>e=Y (.bool (decide (b[k].bytes=l2[k].bytes)))∧w'=w.drewN n):=fun n=>FE (w.drewN n) x.bo y.bo x.fU y.fU _ _ b[k].bytes l2[k].bytes rfl rfl (x5.drewN n) (y5.drewN n);have a:Hid (¬b[k]=l2[k]->∀W,∀qq,W=w.drewN qq->Jw b l2 w (Y (.bool F)) W):=fun hne W qq hW=>.mk F qq rfl (fun e=>absurd (by subst e;rfl) hne) hW;clear x5 y5;clear H1 H2 l m;generalize b[k]=p at *;generalize l2[k]=p' at *;clear g1 g2;obtain⟨i1,z1,z,j,t1⟩:=p;obtain⟨i2,z2,m2,s,t2⟩:=p';simp only at x0 x1 x2 x3 x4 y0 y1 y2 y3 y4 i a;by_cases B:i1=i2
      . subst B;by_cases C:z1=z2
        . subst C;by_cases D:z=m2
          . subst D;have tm:(z.toList==z.toList)=true:=beq_self_eq_true _;by_cases G:t1=t2
            . subst G;by_cases H:j=s
              . subst H;rw[aI rfl] at i;generalize j.length=pn at *;clear a;go_wp2;go_quiet ((go_at_call 17;exact(i.o _).mono (fun e w2 u=>⟨u.1,_,u.2⟩)))
                go_wp2;go_roundw
                case rel=>exact⟨k+1,q+nq,by omega,by go_num,by simp⟩
                case measure=>simp[intOf];omega
              . rw[aJ H] at i;have f:=H9 (a.o (fun e=>H (by injection e)));clear H a;generalize j.length=pn at *;generalize s.length=pn' at *;go_wp2;go_quiet ((go_at_call 17;exact(i.o _).mono (fun e w2 u=>⟨u.1,_,u.2⟩)))
                go_wp2;go_ret;exact f.o _ (q+nq) (by simp)
            . have f:=H9 (a.o (fun e=>G (by injection e)));have tb:(t1 != t2)=true:=by rw[cK];exact G
              clear a i G;go_wp2;go_quiet (fail)
              go_wp2;go_ret;exact f.o _ (q+nq) (by simp)
          . have f:=H9 (a.o (fun e=>D (by injection e)));have tm:=Yh D;have tm2:(z.toList != m2.toList)=true:=by rw[bne,tm];rfl
            clear a i D;go_wp2;go_quiet (fail)
            go_wp2;go_ret;exact f.o _ (q+nq) (by simp)
        . have f:=H9 (a.o (fun e=>C (by injection e)));have tb:(z1 != z2)=true:=by rw[cK];exact C
          clear a i C;go_wp2;go_quiet (fail)
          go_wp2;go_ret;exact f.o _ (q+nq) (by simp)
      . have f:=H9 (a.o (fun e=>B (by injection e)));have tb:(i1 != i2)=true:=by rw[cK];exact B
        clear a i B;go_wp2;go_quiet (fail)
        go_wp2;go_ret;exact f.o _ (q+nq) (by simp)
    . obtain rfl:k=g:=by omega
      go_wp2;go_ret;exact .mk true q rfl (fun _=>rfl) rfl
 . have f:Hid (Jw b l2 w (Y (.bool F)) w):=.mk F 0 rfl (fun e=>absurd (by rw[<-c,<-d,e]) hl) rfl;have hl':¬(g:Int)=v:=by omega
   clear c d hl;go_enter func19,ntmps19;go_wp2;go_ret;exact f.o
end Go.Proofs.YthhklgjjnaeaoaaGreatDoor