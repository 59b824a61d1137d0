import Derived.Test.YtmbghcpcbdjfoaaGreatDoorPk15
import Derived.Test.YtmbghcpcbdjfoaaGreatDoorPk13
import Derived.Test.YtmbghcpcbdjfoaaGreatDoorPk10
open Go.Value renaming int->I,string->V,slice->Z,pointer->Q
open Go.IntKind renaming i64->J
open Go.Obj renaming cells->K
open Go.Ending renaming returned->Y
open Option renaming none->U,some->M
open Bool renaming false->F
open Go renaming World->X
set_option maxHeartbeats 1600000
set_option maxRecDepth 100000
open Go.Proofs.Tryz
namespace Go.Proofs.YtmbghcpcbdjfoaaGreatDoor
open Go.RowKit
def cQ (w:X)(S:Nat->Prop)(g:Nat)(s:cw):Prop :=
 ∃ao cap, w.heap[g]? = M (K #[Z ao s.b.length cap, .bool s.c, I J (s.a : Int)] 222 (0, 0)) ∧
   bC w 0 5 ao cap s.b∧S g∧∀a,ao=M a->S a.block
theorem cQ.q {w:X}{S:Nat->Prop}{g:Nat}{s:cw}(h:cQ w S g s):g<w.heap.size:=by grind [cQ]
theorem cQ.a {w:X}{S S':Nat->Prop}{g:Nat}{s:cw}(h:cQ w S g s)(c:∀k,k<w.heap.size->S k->S' k):cQ w S' g s:=by
 obtain⟨i,b,d,f,j,l⟩:=h;exact⟨i,b,d,f,c g (bH.1 d).1 j,fun a e=>c _ (f.d a e).2 (l a e)⟩
theorem cQ.d {w w':X}{S S':Nat->Prop}{g:Nat}{s:cw}(h:cQ w S g s)(c:al S' w w')(d:∀k,S k->¬S' k):cQ w' S g s:=by
 obtain⟨j,b,l,m,f,i⟩:=h;exact⟨j,b,c.j l (d g f),m.f c (fun a e=>d _ (i a e)),f,i⟩
theorem cQ.f {w:X}{S:Nat->Prop}{g:Nat}{s:cw}(h:cQ w S g s)(n:Nat):cQ (w.drewN n) S g s:=h.d (al.y (fun _=>False) w n) (fun _ _ e=>e)
theorem cQ.e {w:X}{S:Nat->Prop}{g:Nat}{s:cw}(h:cQ w S g s)(k:Nat):cQ (w.setCell ⟨g,2,U⟩ (I J (k:Int))) S g { s with a:=k }∧al S w (w.setCell ⟨g,2,U⟩ (I J (k:Int))):=by
 obtain⟨j,b,c,d,f,l⟩:=h;refine⟨⟨j,b,?_,d.f (al.f (fun i=>i=g) w _ _ rfl) ?_,f,l⟩,al.f S w _ _ f⟩
 . rw[aQ w g 2 _ _ _ c];rfl
 . intro a e;have:=iJ c d (by decide);rw[dI,e] at this;intro m;exact this (by simp[au,m])
theorem cQ.j {w:X}{S:Nat->Prop}{g:Nat}{s:cw}(h:cQ w S g s)(b:Bool):cQ (w.setCell ⟨g,1,U⟩ (.bool b)) S g { s with c:=b }∧al S w (w.setCell ⟨g,1,U⟩ (.bool b)):=by
 obtain⟨k,c,d,f,j,l⟩:=h;refine⟨⟨k,c,?_,f.f (al.f (fun i=>i=g) w _ _ rfl) ?_,j,l⟩,al.f S w _ _ j⟩
 . rw[aQ w g 1 _ _ _ d];rfl
 . intro a e;have:=iJ d f (by decide);rw[dI,e] at this;intro m;exact this (by simp[au,m])
theorem cQ.r {w:X}{S:Nat->Prop}{g:Nat}{s:cw}(h:cQ w S g s):cQ (w.setCell ⟨g,0,U⟩ (Z U 0 0)) S g { s with b:=[] }∧al S w (w.setCell ⟨g,0,U⟩ (Z U 0 0)):=by
 obtain⟨f,c,d,i,b,j⟩:=h;refine⟨⟨U,0,?_,bC.e _ _ _,b,fun a e=>by cases e⟩,al.f S w _ _ b⟩;rw[aQ w g 0 _ _ _ d];rfl
theorem cQ.y {w c:X}{S:Nat->Prop}{g:Nat}{s:cw}{l:ae}{ao:ai}{cap:Nat}{gQ:ai}{b:Nat}(o:w.heap[g]? = M (K #[Z ao s.b.length cap,.bool s.c,I J (s.a:Int)] 222 (0,0)))(f:S g)(j:bC c 0 5 gQ b l)(m:al (fun k=>S k∧k≠g) w c)(ha:∀a,gQ=M a->aB S w a.block)(n:Nat)(p:n=l.length):
 cQ (c.setCell ⟨g,0,U⟩ (Z gQ n b)) (aB S w) g { s with b:=l }∧al S w (c.setCell ⟨g,0,U⟩ (Z gQ n b)):=by
 subst p;have d:=m.j o (fun e=>e.2 rfl);refine⟨⟨gQ,b,?_,j.f (al.f (fun i=>i=g) c _ _ rfl) ?_,Or.inl f,ha⟩,(m.e (fun k e=>e.1)).a (al.f S c _ _ f) (fun i e _=>e)⟩
 . rw[aQ c g 0 _ _ _ d];rfl
 . intro a e;have:=iJ d j (by decide);rw[dI,e] at this;intro q;exact this (by simp[au,q])
theorem Cs (w:X):
 Calls prog 113 #[] w fun e w'=>e=Y (Q (M ⟨w.heap.size,0,U⟩))∧cQ w' (fun k=>w.heap.size<=k) w.heap.size dv∧Below w.heap.size w w':=by
 go_enter func113,ntmps113;go_wp2;go_ret;exact⟨rfl,⟨U,0,bw w _,bC.e _ _ _,ak _,fun a e=>by cases e⟩,(aq _ _).alloc (ak _) _⟩
theorem yJ (w:X)(S:Nat->Prop)(g:Nat)(s:cw)(c:UInt8)(h:cQ w S g s):
 Calls prog 181 #[Q (M ⟨g,0,U⟩),I .u8 c.toNat] w fun e w'=>e=Y (I J (fM s c:Int))∧w'=w:=by
 obtain⟨x,u,r,_⟩:=h;have y:=am w g 0 _ _ _ r;have k:=am w g 1 _ _ _ r;have l:=yW (c.toNat:Int) w;by_cases b:s.c=(c==10)
 . by_cases m:c=13
   . have p:((c.toNat:Int)==13)=true:=by rw[m];rfl
     have f:((c.toNat:Int)==10)=F:=by rw[m];rfl
     have d:fM s c=0:=by unfold fM;rw[if_pos b,if_pos (Or.inl m)]
     have i:s.c=F:=by rw[b,m];rfl
     rw[d];rw[i] at k;go_enter func181,ntmps181;go_wp2;go_ret;exact⟨rfl,rfl⟩
   . have p:((c.toNat:Int)==13)=F:=mn m;by_cases a:c=10
     . have f:((c.toNat:Int)==10)=true:=by rw[a];rfl
       have d:fM s c=0:=by unfold fM;rw[if_pos b,if_pos (Or.inr a)]
       have i:s.c=true:=by rw[b,a];rfl
       rw[d];rw[i] at k;go_enter func181,ntmps181;go_wp2;go_ret;exact⟨rfl,rfl⟩
     . have f:((c.toNat:Int)==10)=F:=mn a;have i:s.c=F:=by rw[b];exact aO.2 a
       have j:¬(c=13∨c=10):=by rintro (e | e) <;> contradiction
       rw[i] at k;cases n:cG (c.toNat:Int)
       . have d:fM s c=3:=by unfold fM;rw[if_pos b,if_neg j,if_pos n]
         rw[n] at l;rw[d];go_enter func181,ntmps181;go_wp2_with fail;refine l.mono ?_;rintro e w' ⟨rfl,o⟩;subst o;go_wp2;go_ret;exact⟨rfl,rfl⟩
       . rw[n] at l;by_cases t:200<=s.b.length
         . have d:fM s c=4:=by unfold fM;rw[if_pos b,if_neg j,if_neg (by rw[n];simp),if_pos t]
           have v:decide ((s.b.length:Int)≥200)=true:=by rw[bS];omega
           rw[d];go_enter func181,ntmps181;go_wp2_with fail;refine l.mono ?_;rintro e w' ⟨rfl,o⟩;subst o;go_wp2;go_ret;exact⟨rfl,rfl⟩
         . have d:fM s c=0:=by unfold fM;rw[if_pos b,if_neg j,if_neg (by rw[n];simp),if_neg t]
           have v:decide ((s.b.length:Int)≥200)=F:=by rw[cz];omega
           rw[d];go_enter func181,ntmps181;go_wp2_with fail;refine l.mono ?_;rintro e w' ⟨rfl,o⟩;subst o;go_wp2;go_ret;exact⟨rfl,rfl⟩
 . have d:fM s c=2:=by unfold fM;rw[if_neg b]
   rw[d];by_cases a:c=10
   . have f:((c.toNat:Int)==10)=true:=by rw[a];rfl
     have i:s.c=F:=by
      cases q:s.c
      . rfl
      . exact absurd (by rw[q,a];rfl) b
     rw[i] at k;go_enter func181,ntmps181;go_wp2;go_ret;exact⟨rfl,rfl⟩
   . have f:((c.toNat:Int)==10)=F:=mn a;have i:s.c=true:=by
      cases q:s.c
      . exact absurd (by rw[q];exact(aO.2 a).symm) b
      . rfl
     rw[i] at k;go_enter func181,ntmps181;go_wp2;go_ret;exact⟨rfl,rfl⟩
def kX (s:cw)(c:UInt8):Value:=.tuple #[V ⟨(cY s c).toArray⟩,.bool (fW s c),I J ((bu s c).a:Int)]
theorem vj {s a:cw}{c:UInt8}{t:ae}{b:Bool}{k:Nat}(d:cY s c=t)(e:fW s c=b)(f:bu s c=a)(g:a.a=k):kX s c=.tuple #[V ⟨t.toArray⟩,.bool b,I J (k:Int)]:=by
 unfold kX;rw[d,e,f,g]
theorem zp {w:X}{S:Nat->Prop}{g:Nat}{s:cw}(h:cQ w S g s)(W:X):cQ w (aB S W) g s:=h.a (fun _ _ e=>Or.inl e)
theorem ay.nS (W:X)(c:UInt8)(t:Nat)(a:Nat×Nat){k:Nat}(b:W.heap.size=k):ay (W.alloc (K #[I .u8 (c.toNat:Int)] t a)) (M ⟨k,0,U⟩) 1 [c]:=b▸ay.y W c t a
theorem SD {W b:X}{g:Nat}{row:Obj}{r:Option Nat}(c:W.heap[g]? = M row)(d:Obj)(e:(W.alloc d).grownBy b r)(f:M g≠r):b.heap[g]? = M row:=by
 have a:g<W.heap.size:=(bH.1 c).1;have:=e.block g (by simp;omega) f;rw[this,(qv W d U).block g a (by simp)];exact c
theorem Op (w:X)(S:Nat->Prop)(g:Nat)(s:cw)(c:UInt8)(h:cQ w S g s)(b:s.a≠0):
 Calls prog 132 #[Q (M ⟨g,0,U⟩),I .u8 c.toNat] w fun e w'=>e=Y (kX s c)∧cQ w' (aB S w) g (bu s c)∧al S w w':=by
 have a:=MF c b;rw[vj a.2.1 a.2.2 a.1 rfl,a.1];have d:=aa h;obtain⟨j,f,i,_⟩:=h;have k:=am w g 2 _ _ _ i;have l:((s.a:Int)==0)=F:=by rw[aO];omega
 have m:((s.a:Int) != 0)=true:=by rw[cW];omega
 go_enter func132,ntmps132;go_wp2;go_quiet (fail)
 go_wp2;go_ret3
 exact⟨rfl,zp (d.o.f _) w,al.y _ _ _⟩
theorem QX (w:X)(S:Nat->Prop)(g:Nat)(s:cw)(c:UInt8)(k:Nat)(h:cQ w S g s)(m:s.a=0)(a:fM s c=k)(d:k≠0):
 Calls prog 132 #[Q (M ⟨g,0,U⟩),I .u8 c.toNat] w fun e w'=>e=Y (kX s c)∧cQ w' (aB S w) g (bu s c)∧al S w w':=by
 have f:bu s c={ s with a:=k }:=by unfold bu;rw[if_neg (by omega),a,if_pos d]
 rw[vj (t:=[]) (b:=F) (by unfold cY;rw[if_neg (fun e=>d (a.symm.trans e.2.1))]) (by unfold fW;rw[cz];exact fun e=>d (a.symm.trans e.2.1)) f rfl,f];have i:=yJ w S g s c h;rw[a] at i;have j:=h.e k;obtain⟨p,n,l,_⟩:=h;have q:w.cell? ⟨g,2,U⟩=M (I J 0):=by
  rw[am w g 2 _ _ _ l];simp[m]
 have r:=aD w g 2 _ _ l;have u:((k:Int) != 0)=true:=by rw[cW];omega
 go_enter func132,ntmps132;go_wp2_with fail;refine i.mono ?_;rintro e v ⟨rfl,o⟩;subst o;go_wp2;go_quiet (fail)
 go_wp2;go_ret3
 exact⟨rfl,zp (j.1.f _) _,j.2.a (al.y S _ _) (fun _ e _=>e)⟩
theorem SE (w:X)(S:Nat->Prop)(g:Nat)(s:cw)(h:cQ w S g s)(j:s.a=0)(f:fM s 10=0):
 Calls prog 132 #[Q (M ⟨g,0,U⟩),I .u8 10] w fun e w'=>e=Y (kX s 10)∧cQ w' (aB S w) g (bu s 10)∧al S w w':=by
 have k:bu s 10=⟨[],F,0⟩:=by unfold bu;rw[if_neg (by omega),f];rfl
 rw[vj (t:=s.b) (b:=true) (by unfold cY;rw[if_pos ⟨j,f,rfl⟩]) (by unfold fW;rw[bS];exact⟨j,f,rfl⟩) k rfl,k];have l:=yJ w S g s 10 h;rw[f] at l;have m:=h.e 0;have d:=m.1.r;have n:=d.1.j F;obtain⟨v,p,c,o,_⟩:=h;have x:=am w g 0 _ _ _ c;have y:=am w g 1 _ _ _ c;have z:w.cell? ⟨g,2,U⟩=M (I J 0):=by
  rw[am w g 2 _ _ _ c];simp[j]
 have B:=aD w g 0 _ _ c;have C:=aD w g 1 _ _ c;have D:=aD w g 2 _ _ c;have q:=(o.a.e (w':=w.setCell ⟨g,2,U⟩ (I J 0)) (al.f (fun i=>i=g) w _ _ rfl) (fun a e=>by
  have:=iJ c o (by decide);rw[dI,e] at this;intro r;exact this (by simp[au,r]))).r (P:=prog) 31 9 5 underlying31 underlying5 underlying9
 generalize (⟨s.b.toArray⟩:ag)=bs at q ⊢;go_enter func132,ntmps132;go_wp2_with fail;refine l.mono ?_;rintro e G ⟨rfl,u⟩;subst u;go_wp2;go_ret3
 exact⟨rfl,zp n.1 _,m.2.a (d.2.a n.2 (fun _ e _=>e)) (fun _ e _=>e)⟩
theorem TY (w:X)(S:Nat->Prop)(g:Nat)(s:cw)(h:cQ w S g s)(c:s.a=0)(d:fM s 13=0):
 Calls prog 132 #[Q (M ⟨g,0,U⟩),I .u8 13] w fun e w'=>e=Y (kX s 13)∧cQ w' (aB S w) g (bu s 13)∧al S w w':=by
 have f:bu s 13=⟨s.b,true,0⟩:=by unfold bu;rw[if_neg (by omega),d,c];rfl
 rw[vj (t:=[]) (b:=F) (by unfold cY;rw[if_neg (fun e=>by cases e.2.2)]) (by unfold fW;rw[cz];exact fun e=>by cases e.2.2) f rfl,f];have i:=yJ w S g s 13 h;rw[d] at i;have j:=h.e 0;have k:=j.1.j true;obtain⟨n,l,a,o,_⟩:=h;have p:=am w g 1 _ _ _ a;have q:w.cell? ⟨g,2,U⟩=M (I J 0):=by
  rw[am w g 2 _ _ _ a];simp[c]
 have r:=aD w g 1 _ _ a;have u:=aD w g 2 _ _ a;go_enter func132,ntmps132;go_wp2_with fail;refine i.mono ?_;rintro e v ⟨rfl,m⟩;subst m;go_wp2;go_ret3
 exact⟨rfl,zp k.1 _,j.2.a k.2 (fun _ e _=>e)⟩
theorem QY (w:X)(S:Nat->Prop)(g:Nat)(s:cw)(c:UInt8)(h:cQ w S g s)(hs:s.b.length<=200)(C:s.a=0)(D:fM s c=0)(d:c≠10)(G:c≠13):
 Calls prog 132 #[Q (M ⟨g,0,U⟩),I .u8 c.toNat] w fun e w'=>e=Y (kX s c)∧cQ w' (aB S w) g (bu s c)∧al S w w':=by
 have H:bu s c=⟨s.b++[c],s.c,0⟩:=by unfold bu;rw[if_neg (by omega),D,if_neg (by omega),if_neg d,if_neg G,C]
 rw[vj (t:=[]) (b:=F) (by unfold cY;rw[if_neg (fun e=>d e.2.2)]) (by unfold fW;rw[cz];exact fun e=>d e.2.2) H rfl,H];have L:=yJ w S g s c h;rw[D] at L;have t10:((c.toNat:Int)==10)=F:=mn d;have t13:((c.toNat:Int)==13)=F:=mn G;have HS:=h.e 0;obtain⟨f,j,m,N,h1,T⟩:=h;obtain⟨i0,v,x,y,z⟩:=info_parts il;have Hi:=v;have kT:=aa x;have kL:=aa y;have kU:=aa z
 have n:∀a,f=M a->a.block≠g:=fun a e e2=>by
  have:=iJ m N (by decide);rw[dI,e] at this;exact this (by simp[au,e2])
 have c0:w.cell? ⟨g,0,U⟩=M (Z f s.b.length j):=am w g 0 _ _ _ m;have c2:w.cell? ⟨g,2,U⟩=M (I J 0):=by
  rw[am w g 2 _ _ _ m];simp[C]
 have f0:w.frozen? ⟨g,0,U⟩=F:=aD w g 0 _ _ m;have f2:w.frozen? ⟨g,2,U⟩=F:=aD w g 2 _ _ m;have HO:=N.f (w':=w.setCell ⟨g,2,U⟩ (I J 0)) (al.f (fun i=>i=g) w _ _ rfl) (fun a e=>n a e);have W:(w.setCell ⟨g,2,U⟩ (I J 0)).heap[g]? = M (K #[Z f s.b.length j,.bool s.c,I J (0:Int)] 222 (0,0)):=by
  show _=_;rw[aQ w g 2 _ _ _ m];rfl
 have hlt:g<w.heap.size:=(bH.1 m).1;go_enter func132,ntmps132;go_wp2_with fail;refine L.mono ?_;rintro e u ⟨rfl,hw⟩;subst hw;have HN:M g≠au f:=by
  cases f with
  | none=>simp[au]
  | some a=>intro e;injection e with e;exact n a rfl e.symm
 go_wp2_with (at_builtin;refine tR rfl (.tmp 23) (.tmp 25) 31 rfl 0 5 i0 underlying31 Hi kT.o kL.o kU.o (l:=s.b) (l2:=[c]) rfl rfl (HO.j _) rfl rfl (ay.nS _ _ _ _ (by simp)) (by simp;omega) (ax _) ?_;intro lu iq q r p kr;have B:=SD W _ p HN;have c3:q.cell? ⟨g,0,U⟩=M (Z f s.b.length j):=am q g 0 _ _ _ B;have f3:q.frozen? ⟨g,0,U⟩=F:=aD q g 0 _ _ B;have sG:=aa r;have Av:=aa p;have Lc:=aa kr;clear r p kr B)
 go_ret3
 have hz:(u.setCell ⟨g,2,U⟩ (I J 0)).heap.size=u.heap.size:=by simp
 have hT:al (fun k=>S k∧k≠g) (u.setCell ⟨g,2,U⟩ (I J 0)) q :=
  (al.q (qv _ _ U) (fun k e => by cases e)).a (al.q Av.o (S := fun k => S k ∧ k ≠ g) (fun k e => by
   cases f with
   | none=>cases e
   | some a=>injection e with e;subst e;exact⟨T a rfl,n a rfl⟩)) (fun _ e _=>e)
 have hA:∀a,lu=M a->aB S (u.setCell ⟨g,2,U⟩ (I J 0)) a.block:=by
  intro a e;subst e;rcases Lc.o with e | e
  . cases f with
    | none=>cases e
    | some a'=>injection e with e;rw[e];exact Or.inl (T a' rfl)
  . injection e with e;rw[e];exact Or.inr (by simp)
 have hL:=cQ.y (s:=⟨s.b,s.c,0⟩) W h1 sG.o hT hA (s.b.length+1) (by simp);refine⟨rfl,hL.1.a (fun k _ e=>?_),HS.2.a hL.2 (fun _ e _=>e)⟩;rcases e with e | e
 . exact Or.inl e
 . exact Or.inr (by omega)
theorem yR (w:X)(S:Nat->Prop)(g:Nat)(s:cw)(c:UInt8)(h:cQ w S g s)(i:s.b.length<=200):
 Calls prog 132 #[Q (M ⟨g,0,U⟩),I .u8 c.toNat] w fun e w'=>e=Y (kX s c)∧cQ w' (aB S w) g (bu s c)∧al S w w':=by
 by_cases a:s.a=0
 . by_cases d:fM s c=0
   . by_cases b:c=10
     . subst b;exact SE w S g s h a d
     . by_cases f:c=13
       . subst f;exact TY w S g s h a d
       . exact QY w S g s c h i a d b f
   . exact QX w S g s c _ h a rfl d
 . exact Op w S g s c h a
structure cS (w:X)(S:Nat->Prop)(g gl:Nat)(nx lf rm fd code:Int)(ln:cw):Prop where
 b:w.heap[g]? = M (K #[Q (M ⟨gl,0,U⟩),I J nx,I J lf,I J rm,I J fd,I J code] 272 (0,0))
 c:S g
 h:cQ w (fun k=>S k∧k≠g) gl ln
def jC (w:X)(S:Nat->Prop)(g:Nat)(s:dz):Prop :=
 ∃gl nx lf rm fd ln,cS w S g gl nx lf rm fd (fJ s:Int) ln∧(fJ s=0->ln=s.d∧nx=(ip s:Int)∧lf=(ke s:Int)∧rm=4000-(s.f:Int)∧fd=(s.e:Int))
section
variable {w w':X} {S S':Nat->Prop} {g gl:Nat} {nx lf rm fd code:Int} {ln:cw}
theorem cS.G (h:cS w S g gl nx lf rm fd code ln)(a:∀k,k<w.heap.size->S k->S' k):cS w S' g gl nx lf rm fd code ln :=
 ⟨h.b,a g (bH.1 h.b).1 h.c,h.h.a (fun k b e=>⟨a k b e.1,e.2⟩)⟩
theorem cS.E (h:cS w S g gl nx lf rm fd code ln)(a:al S' w w')(b:∀k,S k->¬S' k):cS w' S g gl nx lf rm fd code ln :=
 ⟨a.j h.b (b g h.c),h.c,h.h.d a (fun k e=>b k e.1)⟩
theorem cS.f (h:cS w S g gl nx lf rm fd code ln)(a:Below w.heap.size w w'):cS w' S g gl nx lf rm fd code ln:=h.E (al.d (S:=fun _=>False) a) (fun _ _ e=>e)
theorem cS.a (h:cS w S g gl nx lf rm fd code ln)(j:Nat)(a:j<6):w.cell? ⟨g,j,U⟩=#[Value.pointer (M ⟨gl,0,U⟩),I J nx,I J lf,I J rm,I J fd,I J code][j]?:=by
 match j,a with
 | 0,_=>exact am w g 0 _ _ _ h.b
 | 1,_=>exact am w g 1 _ _ _ h.b
 | 2,_=>exact am w g 2 _ _ _ h.b
 | 3,_=>exact am w g 3 _ _ _ h.b
 | 4,_=>exact am w g 4 _ _ _ h.b
 | 5,_=>exact am w g 5 _ _ _ h.b
theorem cS.e (h:cS w S g gl nx lf rm fd code ln)(j:Nat):w.frozen? ⟨g,j,U⟩=F:=aD w g j _ _ h.b
theorem cS.r (h:cS w S g gl nx lf rm fd code ln)(j:Nat)(v:Value){b c d f a:Int}
 (e:(#[Value.pointer (M ⟨gl,0,U⟩),I J nx,I J lf,I J rm,I J fd,I J code].setIfInBounds j v)=#[Value.pointer (M ⟨gl,0,U⟩),I J b,I J c,I J d,I J f,I J a]) :
 cS (w.setCell ⟨g,j,U⟩ v) S g gl b c d f a ln:=by
 refine⟨?_,h.c,h.h.d (al.f (fun i=>i=g) w _ _ rfl) (fun k e=>e.2)⟩;rw[aQ w g j _ _ _ h.b,e]
theorem cS.q (h:cS w S g gl nx lf rm fd code ln)(k:Int):cS (w.setCell ⟨g,1,U⟩ (I J k)) S g gl k lf rm fd code ln:=h.r 1 _ rfl
theorem cS.y (h:cS w S g gl nx lf rm fd code ln)(k:Int):cS (w.setCell ⟨g,2,U⟩ (I J k)) S g gl nx k rm fd code ln:=h.r 2 _ rfl
theorem cS.jN (h:cS w S g gl nx lf rm fd code ln)(k:Int):cS (w.setCell ⟨g,3,U⟩ (I J k)) S g gl nx lf k fd code ln:=h.r 3 _ rfl
theorem cS.jK (h:cS w S g gl nx lf rm fd code ln)(k:Int):cS (w.setCell ⟨g,4,U⟩ (I J k)) S g gl nx lf rm k code ln:=h.r 4 _ rfl
theorem cS.j (h:cS w S g gl nx lf rm fd code ln)(k:Int):cS (w.setCell ⟨g,5,U⟩ (I J k)) S g gl nx lf rm fd k ln:=h.r 5 _ rfl
theorem cS.d (h:cS w S g gl nx lf rm fd code ln)(j:Nat)(v:Value):al S w (w.setCell ⟨g,j,U⟩ v):=al.f S w _ _ h.c
end
theorem jC.a {w:X}{S S':Nat->Prop}{g:Nat}{s:dz}(h:jC w S g s)(a:∀k,k<w.heap.size->S k->S' k):jC w S' g s:=by
 obtain⟨b,nx,lf,c,d,e,h,k⟩:=h;exact⟨b,nx,lf,c,d,e,h.G a,k⟩
theorem jC.e {w w':X}{S S':Nat->Prop}{g:Nat}{s:dz}(h:jC w S g s)(a:al S' w w')(b:∀k,S k->¬S' k):jC w' S g s:=by
 obtain⟨c,nx,lf,d,e,f,h,k⟩:=h;exact⟨c,nx,lf,d,e,f,h.E a b,k⟩
theorem KL (w:X):
 Calls prog 185 #[] w fun e w'=>∃g,e=Y (Q (M ⟨g,0,U⟩))∧jC w' (fun k=>w.heap.size<=k) g sv∧Below w.heap.size w w':=by
 go_enter func185,ntmps185;go_wp2_with fail;refine(Cs w).mono ?_;rintro e a ⟨rfl,i,j⟩;have d:=i;have f:=aa j
 go_wp2;go_ret;have b:=f.o.size;have l:=d.q;have m:al (fun _=>False) a (a.alloc (K #[Q (M ⟨w.heap.size,0,U⟩),I J 0,I J 0,I J 4000,I J 0,I J 0] 272)):=al.d ((aq _ _).alloc (ak _) _);have c:=(d.a (S':=fun k=>w.heap.size<=k∧k≠a.heap.size) (fun k n e=>⟨e,by omega⟩)).d m (fun _ _ e=>e);exact⟨a.heap.size,rfl,⟨w.heap.size,0,0,4000,0,dv,⟨bw a _,b,c⟩,fun _=>⟨rfl,rfl,rfl,rfl,rfl⟩⟩,f.o.trans ((aq _ _).alloc b _)⟩
def bE (w:X)(g:Nat)(s:ag)(i:Nat):Prop:=w.heap[g]? = M (K #[V s,I J (i:Int)] 295 (0,0))
def bF(g:Nat):Nat->Prop:=fun k=>k=g
def ft (c:Nat):Ending:=.panicked [{ v:=.iface 323 (I J (c:Int)),recovered:=F }]
section
variable {w w':X} {g:Nat} {s:ag} {i:Nat}
theorem bE.j (h:bE w g s i):g<w.heap.size:=(bH.1 h).1
theorem bE.e (h:bE w g s i)(a:Below w.heap.size w w'):bE w' g s i:=(a.block g h.j).trans h
theorem bE.a (h:bE w g s i)(n:Nat):bE (w.drewN n) g s i:=h
theorem bE.r {S:Nat->Prop}(h:bE w g s i)(a:al S w w')(b:¬S g):bE w' g s i:=a.j h b
theorem bE.d (h:bE w g s i):w.cell? ⟨g,0,U⟩=M (V s)∧w.cell? ⟨g,1,U⟩=M (I J (i:Int))∧w.frozen? ⟨g,1,U⟩=F :=
 ⟨am w _ 0 _ _ _ h,am w _ 1 _ _ _ h,aD w _ 1 _ _ h⟩
theorem bE.q (h:bE w g s i)(j:Nat)(x:Int)(a:x=j):bE (w.setCell ⟨g,1,U⟩ (I J x)) g s j:=by
 subst a;unfold bE at h ⊢;rw[aQ w g 1 _ _ _ h];rfl
end
theorem al.G {w:X}{g:Nat}(n:Nat)(v:Value):al (bF g) w ((w.drewN n).setCell ⟨g,1,U⟩ v) :=
 (al.y _ w n).a (al.f (bF g) _ _ _ rfl) (fun _ h _=>h)
theorem rR (s:ag)(i g:Nat)(w:X)(h:bE w g s i):
 Calls prog 292 #[Q (M ⟨g,0,U⟩)] w fun e w'=>e=Y (.bool (decide (i<s.size)))∧∃n,w'=w.drewN n:=by
 obtain⟨a,b,c⟩:=h.d;clear h;go_enter func292,ntmps292;go_wp2;go_quiet (fail)
 go_wp2;go_ret;exact⟨rfl,nq,rfl⟩
theorem wU (s:ag)(i g:Nat)(c:UInt8)(w:X)(h:bE w g s i)(m:s.size<=1000000)(a:s.data.toList[i]? = M c):
 Calls prog 325 #[Q (M ⟨g,0,U⟩),I .u8 (c.toNat:Int)] w fun e w'=>e=Y (.bool true)∧bE w' g s (i+1)∧al (bF g) w w':=by
 have d:s.data.toList.length=s.size:=by rw[cy];rfl
 have f:=fun q=>rR s i g (w.drewN q) (h.a q);have n:=h.d;have b:i<s.size:=by
  have:=(fB.1 a).1;rwa[d] at this
 have k:decide (i<s.size)=true:=by rw[bS];omega
 have j:(i:Int)<s.size:=by omega
 have l:s[i]=c:=by
  rw[gU (by rw[d];exact b)] at a;injection a with a
 rw[k] at f;have o:=GS l;go_enter func325,ntmps325;go_wp2;go_quiet ((go_at_call 292;exact Calls.quiet_of (f _)))
 go_wp2;go_ret;exact⟨rfl,(h.a nq).q (i+1) _ (by omega),al.G _ _⟩
theorem A3 (s:ag)(i g:Nat)(c:UInt8)(w:X)(h:bE w g s i)(j:¬s.data.toList[i]? = M c):
 Calls prog 325 #[Q (M ⟨g,0,U⟩),I .u8 (c.toNat:Int)] w fun e w'=>e=Y (.bool F)∧bE w' g s i∧al (bF g) w w':=by
 have k:s.data.toList.length=s.size:=by rw[cy];rfl
 have a:=fun q=>rR s i g (w.drewN q) (h.a q);have m:=h.d;by_cases b:i<s.size
 . have d:decide (i<s.size)=true:=by rw[bS];omega
   have f:(i:Int)<s.size:=by omega
   have l:s[i]≠c:=by
    intro e;refine j ?_;rw[gU (by rw[k];exact b),<-e];simp[ByteArray.getElem_eq_getElem_data]
   rw[d] at a;have n:=xk l;go_enter func325,ntmps325;go_wp2;go_quiet ((go_at_call 292;exact Calls.quiet_of (a _)))
   go_wp2;go_ret;exact⟨rfl,h.a nq,al.y _ _ _⟩
 . have d:decide (i<s.size)=F:=by rw[cz];omega
   rw[d] at a;go_enter func325,ntmps325;go_wp2;go_quiet ((go_at_call 292;exact Calls.quiet_of (a _)))
   go_wp2;go_ret;exact⟨rfl,h.a nq,al.y _ _ _⟩
theorem wV (s:ag)(i g:Nat)(c:UInt8)(w:X)(h:bE w g s i)(a:s.size<=1000000)(b:s.data.toList[i]? = M c):
 Calls prog 293 #[Q (M ⟨g,0,U⟩),I .u8 (c.toNat:Int)] w fun e w'=>e=Y (.tuple #[])∧bE w' g s (i+1)∧al (bF g) w w':=by
 go_enter func293,ntmps293;go_wp2_with fail;refine(wU s i g c w h a b).mono ?_;rintro e j ⟨rfl,d,f⟩;go_wp2;go_end0
 exact⟨rfl,d,f⟩
theorem Ij (s:ag)(i g:Nat)(c:UInt8)(w:X)(h:bE w g s i)(a:¬s.data.toList[i]? = M c):
 Calls prog 293 #[Q (M ⟨g,0,U⟩),I .u8 (c.toNat:Int)] w fun e w'=>e=ft 5∧al (bF g) w w':=by
 have b:=aa (A3 s i g c w h a);clear a;go_enter func293,ntmps293;go_wp2_with fail;refine b.o.mono ?_;rintro e f ⟨rfl,j,d⟩;go_wp2;exact⟨rfl,rfl,d⟩
def uu (w:X)(g:Nat):Nat:=match w.cell? ⟨g,1,U⟩ with
 | some (I _ x)=>x.toNat
 | _=>0
theorem bE.f {w:X}{g:Nat}{s:ag}{i:Nat}(h:bE w g s i):uu w g=i:=by
 unfold uu;rw[h.d.2.1];simp
theorem xm (s:ag)(k:Nat)(h:k<s.size):s.data.toList[k]'(by rw[cy];exact h)=s[k]:=by simp[ByteArray.getElem_eq_getElem_data]
theorem Fu (c:UInt8):fI (c.toNat:Int)=dD c:=rfl
theorem E0 (c:UInt8)(w:X):
 Calls prog 323 #[I .u8 (c.toNat:Int)] w fun e w'=>e=Y (.bool (eg c))∧w'=w:=by
 by_cases a:c=32
 . subst a;go_enter func323,ntmps323;go_wp2;go_ret;exact⟨rfl,rfl⟩
 . have f:((c.toNat:Int)==32)=F:=mn a;by_cases b:c=9
   . subst b;go_enter func323,ntmps323;go_wp2;go_ret;exact⟨rfl,rfl⟩
   . have g:((c.toNat:Int)==9)=F:=mn b;have d:Hid (eg c=F):=by unfold Hid eg;rw[aO.2 a,aO.2 b];rfl
     go_enter func323,ntmps323;go_wp2;go_ret;exact⟨dS (by rw[d.o]),rfl⟩
theorem Ik (s:ag)(i g:Nat)(w:X)(h:bE w g s i)(L:s.size<=1000000)(v:i<=s.size):
 Calls prog 322 #[Q (M ⟨g,0,U⟩),.func (.func 268) #[] #[]] w fun e w' =>
  e=Y (V (s.extract i (i+aJ s.data.toList i)))∧bE w' g s (i+aJ s.data.toList i)∧al (bF g) w w':=by
 have x:s.data.toList.length=s.size:=by rw[cy];rfl
 have r:=aa x;have H:=aa h;obtain⟨y,N,S⟩:=h.d;go_enter func322,ntmps322;go_wp2;go_loopw [] (fun wr=>∃k:Nat,i<=k∧k<=s.size∧bE wr g s k∧al (bF g) w wr∧i+aJ s.data.toList i=k+aJ s.data.toList k) (fun wr=>s.size-uu wr g)
 case atStart=>exact⟨i,ak _,v,H.o,al.r _ _,rfl⟩
 case round =>
  obtain⟨k,z,T,h,B,C⟩:=hrel;have c:=fun q=>rR s k g (wr.drewN q) (h.a q);have m:=aa B;have n:=aa C;have y:=h.d;have D:=aa h.f;by_cases d:k<s.size
  . have p:decide (k<s.size)=true:=by rw[bS];omega
    have t:(k:Int)<s.size:=by omega
    have f:k<s.data.toList.length:=by rw[r.o];exact d
    have j:=xm s k d;rw[p] at c;cases a:dD s[k]
    . have b:Hid (i+aJ s.data.toList i=k):=by
       unfold Hid;rw[n.o];unfold aJ;rw[FX f (by rw[j];exact a)];rfl
      have l:=fun W=>zr (s[k].toNat:Int) W;rw[Fu,a] at l;have G:(i:Int)<=k:=by omega
      have e2:(k:Int)<=s.size:=by omega
      go_wp2;go_quiet ((first | (go_at_call 292;exact Calls.quiet_of (c _)) | (go_at_call 268;exact Calls.quiet_of_same (l _))))
      go_wp2;go_quiet (fail)
      go_wp2;go_ret;exact⟨mV (by rw[b.o]),by rw[b.o];exact h,(m.o.a (al.y (bF g) _ _) (fun _ h _=>h)).a (al.y (bF g) _ _) (fun _ h _=>h)⟩
    . have b:Hid (i+aJ s.data.toList i=(k+1)+aJ s.data.toList (k+1)):=by
       unfold Hid;rw[n.o];unfold aJ;rw[FW f (by rw[j];exact a)];omega
      have l:=fun W=>zr (s[k].toNat:Int) W;rw[Fu,a] at l;go_wp2;go_quiet ((first | (go_at_call 292;exact Calls.quiet_of (c _)) | (go_at_call 268;exact Calls.quiet_of_same (l _))))
      go_wp2;have u:=(h.a nq).q (k+1) ((k:Int)+1) (by omega);go_roundw
      case rel=>exact⟨k+1,by omega,by omega,u,m.o.a (al.G _ _) (fun _ h _=>h),b.o⟩
      case measure=>rw[u.f,D.o];omega
  . obtain rfl:k=s.size:=by omega
    have p:decide (s.size<s.size)=F:=by rw[cz];omega
    have b:Hid (i+aJ s.data.toList i=s.size):=by
     unfold Hid;rw[n.o];unfold aJ;rw[F8 _ (by rw[r.o];exact ak _)];rfl
    rw[p] at c;have G:(i:Int)<=s.size:=by omega
    go_wp2;go_quiet ((go_at_call 292;exact Calls.quiet_of (c _)))
    go_wp2;go_quiet (fail)
    go_wp2;go_ret;exact⟨mV (by rw[b.o]),by rw[b.o];exact h,(m.o.a (al.y (bF g) _ _) (fun _ h _=>h)).a (al.y (bF g) _ _) (fun _ h _=>h)⟩
theorem RC (s:ag)(i g:Nat)(w:X)(h:bE w g s i)(L:s.size<=1000000)(v:i<=s.size):
 Calls prog 322 #[Q (M ⟨g,0,U⟩),.func (.func 323) #[] #[]] w fun e w' =>
  e=Y (V (s.extract i (i+gi eg s.data.toList i)))∧bE w' g s (i+gi eg s.data.toList i)∧al (bF g) w w':=by
 have x:s.data.toList.length=s.size:=by rw[cy];rfl
 have r:=aa x;have H:=aa h;obtain⟨y,N,S⟩:=h.d;go_enter func322,ntmps322;go_wp2;go_loopw [] (fun wr=>∃k:Nat,i<=k∧k<=s.size∧bE wr g s k∧al (bF g) w wr∧i+gi eg s.data.toList i=k+gi eg s.data.toList k) (fun wr=>s.size-uu wr g)
 case atStart=>exact⟨i,ak _,v,H.o,al.r _ _,rfl⟩
 case round =>
  obtain⟨k,z,T,h,B,C⟩:=hrel;have c:=fun q=>rR s k g (wr.drewN q) (h.a q);have m:=aa B;have n:=aa C;have y:=h.d;have D:=aa h.f;by_cases d:k<s.size
  . have p:decide (k<s.size)=true:=by rw[bS];omega
    have t:(k:Int)<s.size:=by omega
    have f:k<s.data.toList.length:=by rw[r.o];exact d
    have j:=xm s k d;rw[p] at c;cases a:eg s[k]
    . have b:Hid (i+gi eg s.data.toList i=k):=by
       unfold Hid;rw[n.o];rw[FX f (by rw[j];exact a)];rfl
      have l:=fun W=>E0 s[k] W;rw[a] at l;have G:(i:Int)<=k:=by omega
      have e2:(k:Int)<=s.size:=by omega
      go_wp2;go_quiet ((first | (go_at_call 292;exact Calls.quiet_of (c _)) | (go_at_call 323;exact Calls.quiet_of_same (l _))))
      go_wp2;go_quiet (fail)
      go_wp2;go_ret;exact⟨mV (by rw[b.o]),by rw[b.o];exact h,(m.o.a (al.y (bF g) _ _) (fun _ h _=>h)).a (al.y (bF g) _ _) (fun _ h _=>h)⟩
    . have b:Hid (i+gi eg s.data.toList i=(k+1)+gi eg s.data.toList (k+1)):=by
       unfold Hid;rw[n.o];rw[FW f (by rw[j];exact a)];omega
      have l:=fun W=>E0 s[k] W;rw[a] at l;go_wp2;go_quiet ((first | (go_at_call 292;exact Calls.quiet_of (c _)) | (go_at_call 323;exact Calls.quiet_of_same (l _))))
      go_wp2;have u:=(h.a nq).q (k+1) ((k:Int)+1) (by omega);go_roundw
      case rel=>exact⟨k+1,by omega,by omega,u,m.o.a (al.G _ _) (fun _ h _=>h),b.o⟩
      case measure=>rw[u.f,D.o];omega
  . obtain rfl:k=s.size:=by omega
    have p:decide (s.size<s.size)=F:=by rw[cz];omega
    have b:Hid (i+gi eg s.data.toList i=s.size):=by
     unfold Hid;rw[n.o];rw[F8 _ (by rw[r.o];exact ak _)];rfl
    rw[p] at c;have G:(i:Int)<=s.size:=by omega
    go_wp2;go_quiet ((go_at_call 292;exact Calls.quiet_of (c _)))
    go_wp2;go_quiet (fail)
    go_wp2;go_ret;exact⟨mV (by rw[b.o]),by rw[b.o];exact h,(m.o.a (al.y (bF g) _ _) (fun _ h _=>h)).a (al.y (bF g) _ _) (fun _ h _=>h)⟩
theorem za (s:ag)(i g:Nat)(w:X)(h:bE w g s i)(a:s.size<=1000000)(b:i<=s.size):
 Calls prog 290 #[Q (M ⟨g,0,U⟩)] w fun e w'=>e=Y (.tuple #[])∧bE w' g s (cl s.data.toList i)∧al (bF g) w w':=by
 have c:=aa (RC s i g w h a b);go_enter func290,ntmps290;go_wp2_with fail;refine c.o.mono ?_;rintro e j ⟨rfl,d,f⟩;go_wp2;go_end0
 exact⟨rfl,d,f⟩
theorem zi (s:ag)(i g:Nat)(w:X)(h:bE w g s i)(f:s.size<=1000000)(b:i<=s.size)(p:aJ s.data.toList i≠0):
 Calls prog 324 #[Q (M ⟨g,0,U⟩)] w fun e w'=>e=Y (V (s.extract i (i+aJ s.data.toList i)))∧bE w' g s (i+aJ s.data.toList i)∧al (bF g) w w':=by
 have j:=Ik s i g w h f b;have c:=vA s.data.toList i (by rw[cy];exact b);rw[cy] at c;have k:i+aJ s.data.toList i<=s.size:=c;have a:=sg (s.extract i (i+aJ s.data.toList i)) (by simp;omega);have d:((s.extract i (i+aJ s.data.toList i)).toList==[])=F:=by
  cases l:(s.extract i (i+aJ s.data.toList i)).toList with
  | nil=>rw[l] at a;cases a
  | cons _ _=>rfl
 generalize aJ s.data.toList i=n at *;generalize s.extract i (i+n)=x at *;go_enter func324,ntmps324;go_wp2_with fail;refine j.mono ?_;rintro e q ⟨rfl,m,o⟩;go_wp2;go_ret;exact⟨rfl,m,o⟩
theorem xa (s:ag)(i g:Nat)(w:X)(h:bE w g s i)(b:s.size<=1000000)(c:i<=s.size)(d:aJ s.data.toList i=0):
 Calls prog 324 #[Q (M ⟨g,0,U⟩)] w fun e w'=>e=ft 5∧al (bF g) w w':=by
 have a:=Ik s i g w h b c;have f:s.extract i (i+aJ s.data.toList i)=⟨#[]⟩:=nh _ (by rw[d];simp);rw[f] at a;go_enter func324,ntmps324;go_wp2_with fail;refine a.mono ?_;rintro e k ⟨rfl,l,j⟩;go_wp2;exact⟨rfl,rfl,j⟩
theorem E1 (s:ag)(i g:Nat)(w:X)(h:bE w g s i)(m:s.size<=1000000)(o:i<s.size):
 Calls prog 344 #[Q (M ⟨g,0,U⟩)] w fun e w'=>e=Y (I .u8 (s[i].toNat:Int))∧bE w' g s (i+1)∧al (bF g) w w':=by
 have a:=rR s i g w h;have j:decide (i<s.size)=true:=by rw[bS];omega
 rw[j] at a;go_enter func344,ntmps344;go_wp2_with fail;refine a.mono ?_;rintro e b ⟨rfl,n,c⟩;have d:bE b g s i:=by rw[c];exact h.a n
 have k:al (bF g) w b:=by rw[c];exact al.y _ _ _
 clear c  a;have p:=d.d;have f:=d.q (i+1) ((i:Int)+1) (by omega);have l:al (bF g) w (b.setCell ⟨g,1,U⟩ (I J ((i:Int)+1))):=k.a (al.f (bF g) _ _ _ rfl) (fun _ h _=>h);have q:=f.d.1;have r:(i:Int)+1-1=i:=by omega
 have t:(i:Int)<s.size:=by omega
 go_wp2;go_quiet (fail)
 go_wp2;go_ret;exact⟨rfl,f.a nq,l.a (al.y (bF g) _ _) (fun _ h _=>h)⟩
theorem Fv (s:ag)(i g:Nat)(w:X)(h:bE w g s i)(j:¬i<s.size):
 Calls prog 344 #[Q (M ⟨g,0,U⟩)] w fun e w'=>e=ft 14∧al (bF g) w w':=by
 have a:=rR s i g w h;have c:decide (i<s.size)=F:=by rw[cz];omega
 rw[c] at a;go_enter func344,ntmps344;go_wp2_with fail;refine a.mono ?_;rintro e d ⟨rfl,n,b⟩;have f:al (bF g) w d:=by rw[b];exact al.y _ _ _
 clear b;go_wp2;exact⟨rfl,rfl,f⟩
def Cx (m:Option (ae×ae))(w:X)(g:Nat)(s:ag)(e:Ending)(w':X):Prop :=
 al (bF g) w w'∧match m with
  | none=>e=ft 14
  | some x=>e=Y (V ⟨x.1.toArray⟩)∧∃j,j<=s.size∧bE w' g s j∧s.data.toList.drop j=x.2
theorem Cx.a {m:Option (ae×ae)}{w:X}{g:Nat}{s:ag}{w':X}(a:m=U)(b:al (bF g) w w'):Cx m w g s (ft 14) w':=by
 subst a;exact⟨b,rfl⟩
theorem Cx.d {m:Option (ae×ae)}{w:X}{g:Nat}{s:ag}{v r:ae}{e:Ending}{w':X}{j:Nat}(a:m=M (v,r))(b:e=Y (V ⟨v.toArray⟩))(c:j<=s.size)(d:bE w' g s j)(hd:s.data.toList.drop j=r)(f:al (bF g) w w'):Cx m w g s e w':=by
 subst a;exact⟨f,b,j,c,d,hd⟩
structure uJ (w:X)(g:Nat)(s:ag)(k:Nat)(acc:ae)(ao:ai)(cap:Nat)(wr:X):Prop where
 a:bE wr g s k
 c:bC wr w.heap.size 5 ao cap acc
 b:al (bF g) w wr
 d:g<w.heap.size
section
variable {w wr w1 w3:X} {g k k':Nat} {s:ag} {acc acc':ae} {ao gQ:ai} {cap cap':Nat}
theorem uJ.e (h:uJ w g s k acc ao cap wr)(c:bE w1 g s k')(b:al (bF g) wr w1):uJ w g s k' acc ao cap w1 :=
 ⟨c,h.c.f b (fun a e d=>by have:=(h.c.d a e).1;have:=h.d;unfold bF at d;omega),h.b.a b (fun _ h _=>h),h.d⟩
theorem uJ.f (h:uJ w g s k acc ao cap wr)(b:Obj)(d:bC w3 w.heap.size 5 gQ cap' acc')(f:(wr.alloc b).grownBy w3 (au ao)):uJ w g s k acc' gQ cap' w3:=by
 have j:∀i,au ao=M i->w.heap.size<=i:=by
  intro i e;cases ao with
  | none=>simp[au] at e
  | some a=>simp only[au,iV] at e;have:=(h.c.d a rfl).1;omega
 have c:=(al.q (qv wr b U) (fun k e=>by cases e)).a (al.q f j) (fun _ h _=>h);exact⟨h.a.r c (by have:=h.d;omega),d,h.b.a c (fun i m l=>by omega),h.d⟩
end
theorem ay.lH (W:X)(c:UInt8)(t:Nat)(a:Nat×Nat){k:Nat}(b:W.heap.size=k):ay (W.alloc (K #[I .u8 (c.toNat:Int)] t a)) (M ⟨k,0,U⟩) 1 [c]:=b▸ay.y W c t a
theorem OC (s:ag)(i g:Nat)(w:X)(h:bE w g s i)(hs:s.size<=1000000)(hi:i<=s.size):
 Calls prog 326 #[Q (M ⟨g,0,U⟩)] w fun e w'=>Cx (fy [] (s.data.toList.drop i)) w g s e w':=by
 have hl:s.data.toList.length=s.size:=by rw[cy];rfl
 have C:=aa hl;obtain⟨i0,H,L,N,S⟩:=info_parts il;have Hi:=H;have kT:=aa L;have kL:=aa N;have kU:=aa S
 go_enter func326,ntmps326;go_wp2;go_loopw [3] (fun t wr=>∃(k:Nat) (a:ae) (T:ai) (q:Nat),k<=s.size∧a.length<=k∧t=Z T a.length q∧uJ w g s k a T q wr∧fy [] (s.data.toList.drop i)=fy a (s.data.toList.drop k)) (fun _ wr=>s.size-uu wr g)
 case atStart=>exact⟨i,[],U,0,hi,ax _,rfl,⟨h,bC.e _ _ _,al.r _ _,h.j⟩,rfl⟩
 case round =>
  obtain⟨k,a,T,q,hk,hal,rfl,hA,hq⟩:=hrel;have D:=aa hA;have x:=aa hA.a.f;have y:=aa hq;by_cases n:k<s.size
  . have G:Hid (s.data.toList.drop k=s[k]::s.data.toList.drop (k+1)):=by
     unfold Hid;rw[gS (by rw[C.o];exact n),xm s k n]
    go_wp2_with fail;refine(E1 s k g _ D.o.a hs n).mono ?_;rintro e w1 ⟨rfl,W,r⟩;have b:=D.o.e W r;generalize s[k]=c at *;by_cases O3:c=34
    . subst O3;have p:fy [] (s.data.toList.drop i)=M (a,s.data.toList.drop (k+1)):=by rw[y.o,G.o,F3]
      have qL:=b.c.a.r (P:=prog) 31 9 5 underlying31 underlying5 underlying9;go_wp2;go_ret;exact Cx.d p rfl (by omega) b.a rfl b.b
    . have t34:((c.toNat:Int)==34)=F:=mn O3;by_cases u:c=92
      . subst u;by_cases f:k+1<s.size
        . have HD2:Hid (s.data.toList.drop (k+1)=s[k+1]::s.data.toList.drop (k+2)):=by
           unfold Hid;rw[gS (by rw[C.o];exact f),xm s (k+1) f]
          have p:Hid (fy [] (s.data.toList.drop i)=fy (a++[s[k+1]]) (s.data.toList.drop (k+2))):=by
           unfold Hid;rw[y.o,G.o,HD2.o,FZ]
          go_wp2_with fail;refine(E1 s (k+1) g _ b.a hs f).mono ?_;rintro e w2 ⟨rfl,W,r⟩;have v:=b.e W r;generalize s[k+1]=d at *;go_wp2_with (at_builtin;refine tR rfl (.tmp 15) (.tmp 17) 31 rfl w.heap.size 5 i0 underlying31 Hi kT.o kL.o kU.o (l:=a) (l2:=[d]) rfl rfl (v.c.j _) rfl rfl (ay.lH _ _ _ _ (by simp)) (by simp;omega) (by have:=v.b.b;simp;omega) ?_;intro lu iq w3 j m kr;have z:=aa (v.f _ j m);clear j m kr)
          go_roundw
          case rel=>exact⟨k+2,a++[d],lu,iq,by omega,by rw[aF];simp;omega,by rw[aF];rfl,z.o,p.o⟩
          case measure=>rw[z.o.a.f,x.o];omega
        . have p:Hid (fy [] (s.data.toList.drop i)=U):=by
           unfold Hid;rw[y.o,G.o,lz (show s.data.toList.length<=k+1 by rw[C.o];omega),FP]
          go_wp2_with fail;refine(Fv s (k+1) g _ b.a f).mono ?_;rintro e w2 ⟨B,r⟩;unfold ft at B;subst B;have HT:=b.b.a r (fun _ h _=>h);go_wp2;exact⟨rfl,Cx.a p.o HT⟩
      . have t92:((c.toNat:Int)==92)=F:=mn u;have p:Hid (fy [] (s.data.toList.drop i)=fy (a++[c]) (s.data.toList.drop (k+1))):=by
         unfold Hid;rw[y.o,G.o,F0 _ _ _ O3 u]
        go_wp2_with (at_builtin;refine tR rfl (.tmp 15) (.tmp 17) 31 rfl w.heap.size 5 i0 underlying31 Hi kT.o kL.o kU.o (l:=a) (l2:=[c]) rfl rfl (b.c.j _) rfl rfl (ay.lH _ _ _ _ (by simp)) (by simp;omega) (by have:=b.b.b;simp;omega) ?_;intro lu iq w3 j m kr;have z:=aa (b.f _ j m);clear j m kr)
        go_roundw
        case rel=>exact⟨k+1,a++[c],lu,iq,by omega,by rw[aF];simp;omega,by rw[aF];rfl,z.o,p.o⟩
        case measure=>rw[z.o.a.f,x.o];omega
  . have p:Hid (fy [] (s.data.toList.drop i)=U):=by
     unfold Hid;rw[y.o,lz (show s.data.toList.length<=k by rw[C.o];omega),Bc]
    go_wp2_with fail;refine(Fv s k g _ D.o.a n).mono ?_;rintro e w2 ⟨B,r⟩;unfold ft at B;subst B;have HT:=D.o.b.a r (fun _ h _=>h);go_wp2;exact⟨rfl,Cx.a p.o HT⟩
structure gy (w:X)(S:Nat->Prop)(g:Nat)(ao:ai)(cap:Nat)(bo:ai)(bc:Nat)(t:dL):Prop where
 c:w.heap[g]? = M (K #[Z ao t.b.length cap,Z bo t.a.length bc] 312 (0,0))
 e:jA w (fun k=>(S k∧k≠g)∧au bo≠M k) 98 ao cap t.b
 f:bC w 0 5 bo bc t.a
 b:∀a,bo=M a->S a.block∧a.block≠g
 d:S g
section
variable {w w':X} {S S':Nat->Prop} {g:Nat} {ao bo:ai} {cap bc:Nat} {t:dL}
theorem gy.a (h:gy w S g ao cap bo bc t):g<w.heap.size:=(bH.1 h.c).1
theorem gy.j (h:gy w S g ao cap bo bc t):w.cell? ⟨g,0,U⟩=M (Z ao t.b.length cap):=am w g 0 _ _ _ h.c
theorem gy.q (h:gy w S g ao cap bo bc t):w.cell? ⟨g,1,U⟩=M (Z bo t.a.length bc):=am w g 1 _ _ _ h.c
theorem gy.E (h:gy w S g ao cap bo bc t)(b:al S' w w')(c:∀k,S k->¬S' k):gy w' S g ao cap bo bc t :=
 ⟨b.j h.c (c g h.d),h.e.d b (fun k e=>c k e.1.1),h.f.f b (fun a e=>c _ (h.b a e).1),h.b,h.d⟩
theorem gy.r (h:gy w S g ao cap bo bc t)(b:∀k,k<w.heap.size->S k->S' k):gy w S' g ao cap bo bc t :=
 ⟨h.c,h.e.a (fun k c e=>⟨⟨b k c e.1.1,e.1.2⟩,e.2⟩),h.f,fun a e=>⟨b _ (h.f.d a e).2 (h.b a e).1,(h.b a e).2⟩,b g h.a h.d⟩
theorem gy.B (h:gy w S g ao cap bo bc t)(a:Below w.heap.size w w'):gy w' S g ao cap bo bc t:=h.E (al.d (S:=fun _=>False) a) (fun _ _ e=>e)
end
theorem gy.G (w:X):gy (w.alloc (K #[Z U 0 0,Z U 0 0] 312)) (fun k=>w.heap.size<=k) w.heap.size U 0 U 0 hY :=
 ⟨bw w _,jA.q _ _ _,bC.e _ _ _,fun a e=>(by cases e),ak _⟩
def eA (w:X)(S:Nat->Prop)(g:Nat)(t:dL):Prop:=∃ao cap bo bc,gy w S g ao cap bo bc t
section
variable {w w':X} {S S':Nat->Prop} {g:Nat} {t:dL}
theorem eA.a (h:eA w S g t)(e:al S' w w')(f:∀k,S k->¬S' k):eA w' S g t:=by obtain⟨a,b,c,d,h⟩:=h;exact⟨a,b,c,d,h.E e f⟩
theorem eA.d (h:eA w S g t)(e:∀k,k<w.heap.size->S k->S' k):eA w S' g t:=by obtain⟨a,b,c,d,h⟩:=h;exact⟨a,b,c,d,h.r e⟩
theorem eA.e (h:eA w S g t)(e:Below w.heap.size w w'):eA w' S g t:=by obtain⟨a,b,c,d,h⟩:=h;exact⟨a,b,c,d,h.B e⟩
end
theorem jA.r {W:X}{S:Nat->Prop}{f:Nat}{ao:ai}{cap:Nat}{es:List az}(h:jA W S f ao cap es)(g:Obj):∃i:List (az×cJ),aG (W.alloc g) 0 f 12 ao cap es.length (cB i) ∧
 ∀gQ b w' (e:az) s (N:Nat->Prop) j,e.d s=j->eI W N e s->s.d=U∧s.c=0->(∀k,S k->¬N k)->aG w' 0 f 12 gQ b (es.length+1) (cB i++j)->(W.alloc g).grownBy w' (au ao)->(au gQ=au ao∨au gQ=M (W.alloc g).heap.size)->jA w' (fun k=>S k∨N k∨W.heap.size<=k) f gQ b (es++[e])∧al S W w':=by
 obtain⟨i,c,u,o,v,w⟩:=h;have l:Below W.heap.size W (W.alloc g):=(aq _ _).alloc (ak _) _;have q:=al.d (S:=fun _=>False) l;refine⟨i,u.r l,fun gQ b w' e s N j x y m z r t n=>?_⟩;subst x;have B:cB [(e,s)]=e.d s:=by simp[cB]
 rw[<-B] at r;have:=jA.e (N:=N) o (fun p d=>(v p d).d q (fun _ _ e=>e)) (ps2:=[(e,s)]) (fun p d=>by rw[cD.1 d];exact y.d q (fun _ _ e=>e)) z r (by rw[<-c,ij];rfl) t n w (fun p d=>by rw[cD.1 d];exact m);refine⟨?_,?_⟩
 . rw[c] at this;refine this.a (fun k C e=>?_);rcases e with e | e | e
   . exact Or.inl e
   . exact Or.inr (Or.inl e)
   . rw[ch] at e;exact Or.inr (Or.inr (by omega))
 . refine(al.d (S:=S) l).a (al.q (S:=S) t (fun k e=>?_)) (fun _ e _=>e);cases ao with
   | none=>cases e
   | some a=>injection e with e;subst e;exact o a rfl
theorem uB:(prog.info? 98).map (fun i=>(i.zero,i.size,i.bytes))=M (M (.agg #[I J 0,V ⟨#[]⟩,V ⟨#[]⟩,I J 0,Z U 0 0,I J 0,Z U 0 0,V ⟨#[]⟩,V ⟨#[]⟩,V ⟨#[]⟩,Z U 0 0,I J 0]),12,184):=by kernel_rfl
structure pN (w:X)(S N:Nat->Prop)(e:az)(s:cJ):Prop where
 c:jz w (fun k=>N k∧ez e s≠M k) s.e s.f e.e.length (aI e.e)
 d:dO w (fun k=>N k∧ez e s≠M k) s.d s.c e.c
 a:bM w N 5 s.a s.b e.a
 b:∀k,S k->¬N k
theorem pN.e {w w':X}{S N:Nat->Prop}{e:az}{s:cJ}(h:pN w S N e s)(b:Below w.heap.size w w'):pN w' S N e s :=
 have a:=al.d (S:=fun _=>False) b
 ⟨h.c.d a (fun _ _ k=>k),h.d.d a (fun _ _ k=>k),h.a.a a (fun _ _ k=>k),h.b⟩
inductive wS (w:X)(S N:Nat->Prop)(es:List az)(e:az)(v:Ending)(w':X):Prop
 | mk (ao:ai) (cap:Nat) (hv:v=Y (Z ao (es.length+1) cap)) (hO:gE w' (fun k=>S k∨N k∨w.heap.size<=k) 98 5 ao cap (es++[e])) (hT:al S w w')
structure yk (w:X)(S N:Nat->Prop)(ao:ai)(ps:List (az×cJ))(es:List az)(e:az)(s:cJ):Prop where
 b:ps.map (·.1)=es
 c:∀a,ao=M a->S a.block
 d:∀p∈ps,eI w (fun k=>S k∧au ao≠M k) p.1 p.2
 f:pN w S N e s
theorem wS.a {w g:X}{S N:Nat->Prop}{ao d:ai}{i n:Nat}{f:List (az×cJ)}{es:List az}{e:az}{s:cJ}{x y:Obj}
 (h:yk w S N ao f es e s) (q:aG g 0 98 12 d i (n+1) (cB f++e.d s)) (o:((w.alloc x).alloc y).grownBy g (au ao)) (l:au d=au ao∨au d=M ((w.alloc x).alloc y).heap.size) (r:n=es.length:=by rfl) :
 wS w S N es e (Y (Z d (n+1) i)) g:=by
 subst r;have j:Below w.heap.size w ((w.alloc x).alloc y):=((aq _ _).alloc (ak _) _).alloc (by simp) _;have t:=al.d (S:=fun _=>False) j;have u:es.length=f.length:=by rw[<-h.b];simp
 have m:∀p∈f,eI ((w.alloc x).alloc y) (fun k=>S k∧au ao≠M k) p.1 p.2:=fun p v=>(h.d p v).d t (fun _ _ k=>k);have b:=h.f.e j;have z:aG g 0 98 12 d i (f.length+1) (cB (f++[(e,s)])):=by
  rw[tW,<-u];have B:cB [(e,s)]=e.d s:=by simp[cB]
  rw[B];exact q
 have C:=gE.r (tb:=5) h.c m b.c b.d b.a b.b z rfl o l;refine .mk d i rfl ?_ ?_
 . rw[<-h.b];refine C.d (fun k _ c=>?_);rcases c with c | c | c
   . exact Or.inl c
   . exact Or.inr (Or.inl c)
   . refine Or.inr (Or.inr ?_);rw[c];exact j.size
 . refine(al.d (S:=S) j).a (al.q (S:=S) o (fun k c=>?_)) (fun _ k _=>k);cases ao with
   | none=>cases c
   | some a=>injection c with c;subst c;exact h.c a rfl
theorem RQ (w:X)(S N:Nat->Prop)(ao:ai)(cap:Nat)(es:List az)(e:az)(s:cJ)(h:gE w S 98 5 ao cap es)(j:pN w S N e s)(B:es.length<=1000000)(k:e.b≠2):
 Calls prog 136 #[Z ao es.length cap,.agg #[I J e.b,V e.i,V e.j,I J e.m,Z s.e e.e.length s.f,I J e.l,Z s.a e.a.length s.b,V e.g,V e.f,V e.h,Z s.d e.c.length s.c,I J e.k]] w fun v w'=>wS w S N es e v w':=by
 have C:=aO.2 k;obtain⟨l,a,m,n,p⟩:=h.e;have q:yk w S N ao l es e s:=⟨a,n,p,j⟩;obtain⟨r,b,c,d,f⟩:=info_parts uB;have t:=b;have u:=aa c;have x:=aa d;have y:=aa f
 go_enter func136,ntmps136;go_wp2_with (at_builtin;go_loud (refine fE rfl (.tmp 37) (.tmp 39) 58 rfl 0 98 r (.agg #[I J 0,V ⟨#[]⟩,V ⟨#[]⟩,I J 0,Z U 0 0,I J 0,Z U 0 0,V ⟨#[]⟩,V ⟨#[]⟩,V ⟨#[]⟩,Z U 0 0,I J 0]) 12 184 underlying58 t u.o x.o y.o rfl (by decide) rfl ((m.q _).q _) rfl (az.q e s _ _ _ (by simp)) rfl (rD e s) (by omega) (by omega) (ax _) ?_;intro D G H g i z))
 go_ret;exact wS.a q g i z
theorem RR (w:X)(S N:Nat->Prop)(e:az)(s:cJ)(j:pN w S N e s)(l:e.b=2):
 Calls prog 136 #[Z U 0 0,.agg #[I J e.b,V e.i,V e.j,I J e.m,Z s.e e.e.length s.f,I J e.l,Z s.a e.a.length s.b,V e.g,V e.f,V e.h,Z s.d e.c.length s.c,I J e.k]] w fun v w'=>wS w S N [] e v w':=by
 have C:=cM.2 l;have m:yk w S N U [] [] e s:=⟨rfl,(fun a k=>by cases k),(fun p q=>by cases q),j⟩;have r:=aG.f w 0 98 12;obtain⟨t,b,c,d,f⟩:=info_parts uB;have u:=b;have x:=aa c;have y:=aa d;have z:=aa f
 clear b c d f j l;go_enter func136,ntmps136;go_wp2_with (at_builtin;go_loud (refine fE rfl (.tmp 37) (.tmp 39) 58 rfl 0 98 t (.agg #[I J 0,V ⟨#[]⟩,V ⟨#[]⟩,I J 0,Z U 0 0,I J 0,Z U 0 0,V ⟨#[]⟩,V ⟨#[]⟩,V ⟨#[]⟩,Z U 0 0,I J 0]) 12 184 underlying58 u x.o y.o z.o rfl (by decide) rfl ((r.q _).q _) rfl (az.q e s _ _ _ (by simp)) rfl (rD e s) (by omega) (by omega) (ax _) ?_;intro D G H g i B))
 go_ret;exact wS.a (n:=0) m g i B
theorem P3 (w:X)(S N:Nat->Prop)(ao:ai)(cap m:Nat)(es:List az)(e:az)(s:cJ)(h:gE w S 98 5 ao cap es)(z:pN w S N e s)(g:es.length=m+1)(hl:m<=1000000)(B:e.b=2)(C:∀x,es.getLast? = M x->x.b≠2):
 Calls prog 136 #[Z ao (m+1) cap,.agg #[I J e.b,V e.i,V e.j,I J e.m,Z s.e e.e.length s.f,I J e.l,Z s.a e.a.length s.b,V e.g,V e.f,V e.h,Z s.d e.c.length s.c,I J e.k]] w fun v w'=>wS w S N es e v w':=by
 have k2:=cM.2 B;obtain⟨c,d,q,D,G⟩:=h.e;have i:c.length=m+1:=by rw[<-g,<-d];simp
 have r:=q.a;obtain⟨b,o,t,H⟩:=r.e (by rw[tV];omega);have a:w.cell? ⟨b,o+m*12,U⟩=M (I J c[m].1.b):=H (m*12) _ (by
  have:=rP c m (by omega) 0 (by omega);rw[lC] at this;rw[this];rfl)
 have f:c[m].1.b≠2:=C _ (by
  have T:c[c.length-1]? = M c[m]:=by rw[show c.length-1=m by omega,gU (by omega)]
  rw[<-d,List.getLast?_map,List.getLast?_eq_getElem?,T];rfl)
 generalize c[m].1.b=W at a f;have kx2:=aO.2 f;have c0:(w.alloc (K #[I J e.b,V e.i,V e.j,I J e.m,Z s.e e.e.length s.f,I J e.l,Z s.a e.a.length s.b,V e.g,V e.f,V e.h,Z s.d e.c.length s.c,I J e.k] 98)).cell? ⟨b,o+m*12,U⟩=M (I J W):=((aq _ w).alloc (ak _) _).cell (bI w _ a)▸a;have L:m+1<=cap:=by have:=r.1;rwa[g] at this
 rw[g] at q;subst t;have HP:yk w S N (M ⟨b,o,U⟩) c es e s:=⟨d,D,G,z⟩;have HO:=q;have HM:=aa g
 obtain⟨i0,j,k,l,p⟩:=info_parts uB;have Hi:=j;have kT:=aa k;have kL:=aa l;have kU:=aa p
 clear j k l p h z d q D G B r H a f C g i;go_enter func136,ntmps136;go_wp2_with (at_builtin;go_loud (refine fE rfl (.tmp 37) (.tmp 39) 58 rfl 0 98 i0 (.agg #[I J 0,V ⟨#[]⟩,V ⟨#[]⟩,I J 0,Z U 0 0,I J 0,Z U 0 0,V ⟨#[]⟩,V ⟨#[]⟩,V ⟨#[]⟩,Z U 0 0,I J 0]) 12 184 underlying58 Hi kT.o kL.o kU.o rfl (by decide) rfl ((HO.q _).q _) rfl (az.q e s _ _ _ (by simp)) rfl (rD e s) (by omega) (by omega) (ax _) ?_;intro lu iq w3 u y kr))
 go_ret;exact wS.a (n:=m+1) HP u y kr HM.o.symm
