/- Small texts, one behind the other: RqTake, RqHead, RqHeadB, RqFeed. -/
import Derived.Test.YtjmndjmhjleabaaGreatDoorRqFst
import Derived.Test.YtjmndjmhjleabaaGreatDoorRqFld
import Derived.Test.YtjmndjmhjleabaaGreatDoorPk34
import Derived.Test.YtjmndjmhjleabaaGreatDoorPk42
open Go.Value renaming int->I,string->V,slice->Z,pointer->Q
open Go.IntKind renaming i64->J
open Go.Ending renaming returned->Y
open Option renaming none->U,some->M
open Bool renaming false->F
open Or renaming inl->A,inr->R
open Go renaming World->X
set_option maxHeartbeats 4000000
set_option maxRecDepth 100000
open Go.Proofs.Tryz
namespace Go.Proofs.YtjmndjmhjleabaaGreatDoor
open Go.RowKit
inductive Py (w:X)(S:Nat->Prop)(g:Nat)(s:Rq.St)(t:au)(e:Ending)(w':X):Prop
 | quiet (s':Rq.St) (he:e=Y (I J 0)) (hl:Rq.line s t=(s',[])) (hR:jH w' (gM S w) g s') (hT:Turns S w w')
 | bad (c:Nat) (hc:c≠0) (he:e=Y (I J (c:Int))) (hl:Rq.line s t=(Rq.dead s,[.fail c])) (lp hp bd:Value) (hP:jf w' g lp hp F bd 0) (hT:Turns S w w')
 | whole (k:Int) (gl gh:Nat) (D:Nat->Prop) (he:e=Y (I J 0)) (hk:Rq.len s.hd=.inr k) (ht:t=[]) (h1:s.ph=1) (hP:jf w' g (Q (M ⟨gl,0,U⟩)) (Q (M ⟨gh,0,U⟩)) true .nilIface 0)
  (hL:iy w' (fun k=>(S k∧k≠g)∧¬D k) gl s.ln) (hH:jF w' (fun k=>(S k∧k≠g)∧D k) gh { s.hd with length:=k }) (hT:Turns S w w')
theorem Fu {t:av}(h:t.data.toList=[]):t=⟨#[]⟩:=by
 have:t.data=#[]:=by
  apply Array.ext';simpa using h
 cases t;simp only at this;rw[this]
theorem IU {t:av}(h:t.data.toList≠[]):0<t.size:=by
 have a:t.data.toList.length=t.size:=by rw[aN];rfl
 have:=fD.2 h;omega
theorem jH.new {w W:X}{S:Nat->Prop}{g:Nat}{s:Rq.St}(h:jH w S g s):jH w (gM S W) g s:=h.mono (fun _ _ e=>A e)
theorem XT (w:X)(S:Nat->Prop)(g:Nat)(s:Rq.St)(t:av)(h:jH w S g s)(y:s.ph=0)(ht:t.size<=200)(z:∀b∈t.data.toList,Ch.visible b.toNat=true):
 Calls prog 102 #[Q (M ⟨g,0,U⟩),V t] w fun e w'=>Py w S g s t.data.toList e w':=by
 have W:=H9 h;obtain⟨C,lp,hpp,bd,code,a,hI⟩:=h;cases hI with
 | dead c hc h4=>omega
 | K5 p G D h1 L H=>omega
 | at2 p gb h2 L hb B=>omega
 | at3 p gb D h3 L B=>omega
 | Jo p h0 L =>
   have c1:=a.c1;by_cases d:t.data.toList=[]
   . obtain rfl:=Fu d;have q:Hid (Rq.line s []=(s,[])):=by unfold Hid Rq.line;rw[if_pos y,if_pos rfl]
     clear a L d;go_enter func102,ntmps102;go_wp2;go_ret;exact .quiet s rfl q.o W.o.new (Turns.refl _ _)
   . have u:=IU d;have N:t.toList.isEmpty=F:=Ch.lU t u;have HF:=H9 (Uf w g _ _ t a (by omega) z);have q:Hid (Rq.line s t.data.toList=match Rq.first t.data.toList with | .inl c=>(Rq.dead s,[.fail c]) | .inr h=>({ s with ph:=1,hd:=h },[])):=by
      unfold Hid Rq.line;rw[if_pos y,if_neg d];cases Rq.first t.data.toList <;> rfl
     have O:=H9 a;have Fv:=H9 L;have f:=H9 C
     have v:Hid (∀c,Rq.first t.data.toList=.inl c->c≠0):=fun c e=>by
      unfold Rq.first at e;split at e
      . split at e
        . injection e with e;omega
        . split at e
          . injection e with e;omega
          . split at e
            . cases e
            . split at e
              . cases e
              . injection e with e;omega
      . injection e with e;omega
     clear a L C d z;generalize t.data.toList=tl at *;go_enter func102,ntmps102;go_wp2_with fail
     refine HF.o.mono ?_;rintro e w1 (⟨c,rfl,i,P⟩ | ⟨hd,G,rfl,i,j,l,m⟩)
     . have r:=H9 i;have T:=H9 P
       clear i P;go_wp2;go_ret;refine .bad c (v.o c r.o) rfl ?_ _ _ _ (O.o.stay T.o) (Turns.of_below T.o);rw[q.o,r.o]
     . have r:=H9 i;have Z6:=H9 j;have x:=H9 l;have n:=H9 m
       clear i j l m;go_wp2;go_ret;refine .quiet { s with ph:=1,hd:=hd } rfl (by rw[q.o,r.o]) ⟨A f.o,_,_,_,_,Z6.o,?_⟩ (n.o.mono (fun k e=>by rw[e];exact f.o));refine .K5 p G (fun k=>w.heap.size<=k) rfl ?_ ?_
       . refine((Fv.o.mono (S':=fun k=>(gM S w k∧k≠g)∧¬w.heap.size<=k) (fun k hk e=>⟨⟨A e.1,e.2⟩,by omega⟩)).turns n.o (fun k e=>e.1.2))
       . refine x.o.mono (fun k hk e=>⟨⟨R e,?_⟩,e⟩);have:=O.o.lt;omega
theorem XU (w:X)(S:Nat->Prop)(g:Nat)(s:Rq.St)(t:av)(h:jH w S g s)(hp:s.ph=1)(hG:Rq.nG s.hd)(ht:t.size<=200):
 Calls prog 102 #[Q (M ⟨g,0,U⟩),V t] w fun e w'=>Py w S g s t.data.toList e w':=by
 obtain⟨y,lp,hpp,bd,code,m,hI⟩:=h;cases hI with
 | dead c j h4=>omega
 | Jo z h0 L=>omega
 | at2 z gb h2 L hb B=>omega
 | at3 z gb D h3 L B=>omega
 | K5 z v D h1 L H =>
   have c1:=m.c1;have x:¬((fun k=>(S k∧k≠g)∧D k) g):=fun e=>e.1.2 rfl;have O:=H9 m;have Fv:=H9 L;have p:=H9 y;have Pb:=H9 H
   by_cases q:t.data.toList=[]
   . obtain rfl:=Fu q;have HE:=H9 (Z9 w g v _ _ _ s.hd m H x hG);have r:Hid (∀c,Rq.len s.hd=.inl c->Rq.line s []=(Rq.dead s,[.fail c])):=fun c e=>by
      unfold Rq.line;rw[if_neg (by omega),if_pos rfl,e]
     clear m L y q H x;go_enter func102,ntmps102;go_wp2_with fail
     refine HE.o.mono ?_;rintro e P (⟨c,j,rfl,C,a,b⟩ | ⟨k,rfl,C,a,l,b⟩)
     . have T:=H9 C;have G:=H9 a;have d:=H9 b;have W:=H9 j
       clear C a b j;go_wp2;go_ret;exact .bad c W.o rfl (r.o c T.o) _ _ _ G.o (d.o.mono (fun k e=>by
        rcases e with e | e
        . exact e.1.1
        . rw[e];exact p.o))
     . have T:=H9 C;have G:=H9 a;have d:=H9 b;have u:=H9 l
       clear C a b l;go_wp2;go_ret;refine .whole k z v D rfl T.o rfl hp G.o ?_ u.o (d.o.mono (fun k e=>by
        rcases e with e | e
        . exact e.1.1
        . rw[e];exact p.o))
       exact Fv.o.turns d.o (fun k e i=>by
        rcases i with i | i
        . exact e.2 i.2
        . exact e.1.2 i)
   . have hts:=IU q;have hemp:t.toList.isEmpty=F:=Ch.lU t hts;have n:Rq.line s t.data.toList=if s.hd.fields.length=16 then (Rq.dead s,[.fail 8]) else if (Fd.of t.data.toList).code≠0 then (Rq.dead s,[.fail (Fd.of t.data.toList).code]) else ({ s with hd:={ s.hd with fields:=s.hd.fields++[((Fd.of t.data.toList).name,(Fd.of t.data.toList).value)] } },[]):=by
      unfold Rq.line;rw[if_neg (by omega),if_neg q]
     by_cases f:s.hd.fields.length=16
     . have N:=H9 (Pq w g v _ _ _ s.hd t m H f);rw[if_pos f] at n;have r:=H9 n;generalize t.data.toList=tl at *;clear m L y q H x n f;go_enter func102,ntmps102;go_wp2_with fail
       refine N.o.mono ?_;rintro e P ⟨rfl,hw⟩;subst hw;go_wp2;go_ret;exact .bad 8 (by omega) rfl r.o _ _ _ O.o (Turns.refl _ _)
     . rw[if_neg f] at n;by_cases j:(Fd.of t.data.toList).code=0
       . have N:=H9 (XO w g v _ _ _ s.hd t m H x (by have:=hG.many;omega) (by omega) j);rw[if_neg (fun e=>e j)] at n;have r:=H9 n;generalize Fd.of t.data.toList=fd at *;generalize t.data.toList=tl at *;clear m L y q H x n f j;go_enter func102,ntmps102;go_wp2_with fail
         refine N.o.mono ?_;rintro e P ⟨rfl,a,l,b⟩;have G:=H9 a;have u:=H9 l;have d:=H9 b
         clear a l b;go_wp2;go_ret;refine .quiet _ rfl r.o ⟨A p.o,_,_,_,_,G.o,?_⟩ (d.o.mono (fun k e=>e.1.1));refine .K5 z v (fun k=>D k∨w.heap.size<=k) hp ?_ ?_
         . refine((Fv.o.mono (S':=fun k=>((gM S w k∧k≠g)∧¬(D k∨w.heap.size<=k))) (fun k hk e=>⟨⟨A e.1.1,e.1.2⟩,fun i=>by
            rcases i with i | i
            . exact e.2 i
            . omega⟩)).turns d.o (fun k e i=>e.2 (A i.2)))
         . refine u.o.mono (fun k hk e=>?_);rcases e with e | e
           . exact⟨⟨A e.1.1,e.1.2⟩,A e.2⟩
           . exact⟨⟨R e,by have:=O.o.lt;omega⟩,R e⟩
       . have N:=H9 (Ug w g v _ _ _ s.hd t m H f (by omega) j);rw[if_pos j] at n;have r:=H9 n;have W:=H9 j
         generalize (Fd.of t.data.toList).code=cc at *;generalize t.data.toList=tl at *;clear m L y q H x n f j;go_enter func102,ntmps102;go_wp2_with fail
         refine N.o.mono ?_;rintro e P ⟨rfl,hB⟩;have HB:=H9 hB;clear hB;go_wp2;go_ret;exact .bad cc W.o rfl r.o _ _ _ (O.o.stay HB.o) (Turns.of_below HB.o)
structure aac (w:X)(S:Nat->Prop)(g gl:Nat)(s:Rq.St)(c:UInt8):Prop where
 c0:w.cell? ⟨g,0,U⟩=M (Q (M ⟨gl,0,U⟩))
 fed:Calls prog 101 #[Q (M ⟨gl,0,U⟩),I .u8 c.toNat] w fun e w'=>e=Y (Ln.fed s.ln c)∧jH w' (gM (fun k=>S k∧k<w.heap.size) w) g { s with ln:=Ln.next s.ln c }∧Turns (fun k=>(S k∧k<w.heap.size)∧k≠g) w w'
theorem Fw (w:X)(S:Nat->Prop)(g:Nat)(s:Rq.St)(c:UInt8)(h:jH w S g s)(m:Rq.Good s)(y:s.ph=0∨s.ph=1):∃a,aac w S g a s c:=by
 obtain⟨n,z,p,bd,code,f,q⟩:=h;have o:=f.lt;cases q with
 | dead c C G=>omega
 | at2 a r N L O B=>omega
 | at3 a r D P L B=>omega
 | Jo a t L =>
   refine⟨a,f.c0,(pq w (fun k=>(S k∧k<w.heap.size)∧k≠g) a s.ln c (L.mono (fun k b e=>⟨⟨e.1,b⟩,e.2⟩)) m.ln.short).mono ?_⟩;rintro e u ⟨j,l,d⟩;refine⟨j,⟨A ⟨n,o⟩,_,_,_,_,f.turns d (fun e=>e.2 rfl),.Jo a t (l.mono (fun k _ e=>?_))⟩,d⟩;rcases e with e | e
   . exact⟨A e.1,e.2⟩
   . exact⟨R e,by omega⟩
 | K5 a v D x L H =>
   refine⟨a,f.c0,(pq w (fun k=>((S k∧k<w.heap.size)∧k≠g)∧¬D k) a s.ln c (L.mono (fun k b e=>⟨⟨⟨e.1.1,b⟩,e.1.2⟩,e.2⟩)) m.ln.short).mono ?_⟩;rintro e u ⟨j,l,d⟩;refine⟨j,⟨A ⟨n,o⟩,_,_,_,_,f.turns d (fun e=>e.1.2 rfl),.K5 a v (fun k=>D k∧k<w.heap.size) x (l.mono (fun k _ e=>?_)) (((H.mono (S':=fun k=>(gM (fun k=>S k∧k<w.heap.size) w k∧k≠g)∧D k∧k<w.heap.size) (fun k b e=>⟨⟨A ⟨e.1.1,b⟩,e.1.2⟩,e.2,b⟩)).turns d (fun k e i=>i.2 e.2.1)))⟩,d.mono (fun k e=>e.1)⟩;rcases e with e | e
   . exact⟨⟨A e.1.1,e.1.2⟩,fun i=>e.2 i.1⟩
   . exact⟨⟨R e,by omega⟩,fun i=>by have:=i.2;omega⟩
theorem Gh (w:X)(S So:Nat->Prop)(g:Nat)(s:Rq.St)(c:UInt8)(ao:aj)(cap n:Nat)(es:List Rq.Ev)(h:jH w S g s)(L:Rq.Good s)(hp:s.ph=0∨s.ph=1)(v:(Ln.next s.ln c).code≠0)(N:nV w So ao cap es)(hd:∀k,S k->¬So k)(f:es.length=n)(y:n<=90000)(i:Rq.Joined es)(j:Rq.Full es)(x:Rq.jD es<=90000):
 Calls prog 63 #[Q (M ⟨g,0,U⟩),Z ao n cap,I .u8 c.toNat] w fun e w'=>nJ w S So g s c es e w':=by
 obtain⟨gl,z⟩:=Fw w S g s c h L hp;have c0:=z.c0;have B:=H9 z.fed;have l:=Ln.Gy v;have C:Hid (Rq.next s c=(Rq.dead s,[.fail (Ln.next s.ln c).code])):=by
  unfold Hid Rq.next;rw[if_neg (by omega),if_neg (by omega),if_neg (by omega),if_pos v]
 unfold Ln.fed at B;rw[l] at B;have O:Hid (S g∧g<w.heap.size∧∀k,S k->¬So k):=⟨h.1,h.lt,hd⟩;have U0:=H9 (N.mono (S':=fun k=>So k∧k<w.heap.size) (fun k hk e=>⟨e,hk⟩));have HE:=H9 (And.intro f (And.intro y (And.intro i (And.intro j x))));have tc:(((Ln.next s.ln c).code:Int) != 0)=true:=by rw[cO];omega
 have M5:=H9 v;clear h L z N hd f i j x v l;generalize (⟨(Ln.text s.ln c).toArray⟩:av)=tx at *;generalize (Ln.next s.ln c)=D at *;generalize D.code=P at *;go_enter func63,ntmps63;go_wp2_with fail
 refine B.o.mono ?_;rintro e w1 ⟨rfl,T,m⟩;have G:=H9 T;have a:=H9 m
 clear T m;go_wp2_with fail
 obtain⟨f,y,i,j,x⟩:=HE.o;obtain⟨b,W,hd⟩:=O.o;obtain⟨_,lp1,hp1,bd1,abg,p,_⟩:=G.o;refine(Fb w1 g _ _ _ _ _ (fun k=>So k∧k<w.heap.size) ao cap n P es p (U0.o.turns a.o (fun k e d=>hd k d.1.1 e.1)) (fun e=>hd g b e.1) f (by omega) i j (by omega)).mono ?_;rintro e w2 ⟨jw,q,n2,rfl,r,t,u,jU⟩;have MX:=H9 r;have BO:=H9 t;have uy:=H9 u;have H:=H9 jU
 clear f y i j x hd b W r t u jU p;go_wp2;go_ret;obtain⟨b,W,hd⟩:=O.o;have hs1:=a.o.size;refine .mk jw q n2 (fun k=>k=g) _ rfl (by rw[C.o];exact MX.o) ?_ (by rw[C.o];exact BO.o) ?_ (fun k e=>by rw[e];exact A b) ?_ ?_
 . rw[C.o];exact⟨rfl,_,_,_,_,uy.o,.dead P M5.o rfl⟩
 . intro k e d;subst e;rcases d with d | d
   . exact hd k b d.1
   . omega
 . intro k e;rcases e with e | e
   . exact R (A e.1)
   . exact R (R (by omega))
 . refine(a.o.mono (fun k e=>A e.1.1)).trans (H.o.mono (fun k e=>?_)) (fun _ e _=>e);rcases e with e | e
   . exact R e.1
   . rw[e];exact A b
theorem Gi (w:X)(S So:Nat->Prop)(g:Nat)(s:Rq.St)(c:UInt8)(ao:aj)(cap n:Nat)(es:List Rq.Ev)(h:jH w S g s)(v:Rq.Good s)(z:s.ph=0∨s.ph=1)(j:(Ln.next s.ln c).code=0)(l:Ln.ends s.ln c=F)(x:nV w So ao cap es)(hd:∀k,S k->¬So k)(f:es.length=n)(i:Rq.Joined es):
 Calls prog 63 #[Q (M ⟨g,0,U⟩),Z ao n cap,I .u8 c.toNat] w fun e w'=>nJ w S So g s c es e w':=by
 obtain⟨W,m⟩:=Fw w S g s c h v z;have c0:=m.c0;have p:=H9 m.fed;have y:Hid (Rq.next s c=({ s with ln:=Ln.next s.ln c },[])):=by
  unfold Hid Rq.next;rw[if_neg (by omega),if_neg (by omega),if_neg (by omega),if_neg (fun e=>e j),if_neg (by rw[l];simp)]
 unfold Ln.fed at p;rw[l,j] at p;have B:Hid (S g∧g<w.heap.size∧∀k,S k->¬So k):=⟨h.1,h.lt,hd⟩;have C:=H9 (x.mono (S':=fun k=>So k∧k<w.heap.size) (fun k D e=>⟨e,D⟩));have G:=H9 (And.intro f i);clear h v m x hd f i j l;generalize (⟨(Ln.text s.ln c).toArray⟩:av)=tx at *;go_enter func63,ntmps63;go_wp2_with fail
 refine p.o.mono ?_;rintro e H ⟨rfl,q,b⟩;have r:=H9 q;have a:=H9 b
 have c2:H.cell? ⟨g,2,U⟩=M (.bool F):=by obtain⟨_,L,N,O,P,t,_⟩:=q;exact t.c2
 clear q b;go_wp2;go_ret;obtain⟨f,i⟩:=G.o;obtain⟨hg,Ah,hd⟩:=B.o;have T:=a.o.size;have d:Rq.join (es++(Rq.next s c).2)=es:=by rw[y.o,bV];exact Rq.jk es i
 refine .mk ao cap n _ (fun k=>So k∧k<w.heap.size) rfl (by rw[d];exact f.symm) (by rw[y.o];exact r.o) (by rw[d];exact C.o.turns a.o (fun k e u=>hd k u.1.1 e.1)) ?_ ?_ (fun k e=>R (A e.1)) (a.o.mono (fun k e=>A e.1.1))
 . intro k e u;rcases e with e | e
   . exact hd k e.1 u.1
   . omega
 . intro k e;rcases e with e | e
   . exact A e.1
   . exact R e
structure XW (w:X)(S So:Nat->Prop)(g:Nat)(ao:aj)(cap n:Nat)(es:List Rq.Ev):Prop where
 gm:S g
 lt:g<w.heap.size
 apart:∀k,S k->¬So k
 evs:nV w (fun k=>So k∧k<w.heap.size) ao cap es
 len:es.length=n
 most:n<=90000
 joined:Rq.Joined es
 full:Rq.Full es
 sum:Rq.jD es<=90000
theorem Un {a b:X}{T:Nat->Prop}{c d e f:Value}{k:Int}(g:Turns T (a.alloc (.cells #[c,d,e,f,I J k] 68)) b)(i:¬T a.heap.size):b.cell? ⟨a.heap.size,4,U⟩=M (I J k):=by
 have j:=g.row (fH a (.cells #[c,d,e,f,I J k] 68)) i;exact fJ b a.heap.size 4 _ _ _ j
theorem JV (w:X)(S So:Nat->Prop)(g:Nat)(s:Rq.St)(c:UInt8)(ao:aj)(cap n:Nat)(es:List Rq.Ev)(h:jH w S g s)(hG:Rq.Good s)(hp:s.ph=0∨s.ph=1)(he:Ln.ends s.ln c=true)(hO:nV w So ao cap es)(hd:∀k,S k->¬So k)(hn:es.length=n)(hl:n<=90000)(hj:Rq.Joined es)(hf:Rq.Full es)(hz:Rq.jD es<=90000):
 Calls prog 63 #[Q (M ⟨g,0,U⟩),Z ao n cap,I .u8 c.toNat] w fun e w'=>nJ w S So g s c es e w':=by
 obtain⟨gl,XV⟩:=Fw w S g s c h hG hp;have c0:=XV.c0;have HF:=H9 XV.fed;obtain⟨e1,b⟩:=Ln.K3 he;have hc:(Ln.next s.ln c).code=0:=by rw[e1];rfl
 have l:Rq.next s c=Rq.line { s with ln:=Ln.start } (Ln.text s.ln c):=by
  unfold Rq.next;rw[if_neg (by omega),if_neg (by omega),if_neg (by omega),if_neg (fun e=>e hc),if_pos he]
 unfold Ln.fed at HF;rw[he,hc,e1] at HF;have hsh:=Rq.uJ (c:=c) hG.ln;have v:Hid (XW w S So g ao cap n es):=⟨h.1,h.lt,hd,hO.mono (fun k j e=>⟨e,j⟩),hn,hl,hj,hf,hz⟩;have hHG:s.ph=1->Rq.nG s.hd:=fun e=>(hG.hd e).1;have tC:Hid (∀N,jH N (gM (fun k=>S k∧k<w.heap.size) w) g { s with ln:=Ln.start }->Calls prog 102 #[Q (M ⟨g,0,U⟩),V ⟨(Ln.text s.ln c).toArray⟩] N fun e w'=>Py N (gM (fun k=>S k∧k<w.heap.size) w) g { s with ln:=Ln.start } (Ln.text s.ln c) e w'):=fun N hR=>by
  have hsz:(⟨(Ln.text s.ln c).toArray⟩:av).size<=200:=by show(Ln.text s.ln c).toArray.size<=200;rw[bL];exact hsh.1
  rcases hp with hp | hp
  . exact XT N _ g _ ⟨(Ln.text s.ln c).toArray⟩ hR hp hsz hsh.2
  . exact XU N _ g _ ⟨(Ln.text s.ln c).toArray⟩ hR hp (hHG hp) hsz
 have HN:=H9 l;clear h hG XV hO hd hn hj hf hz hc he e1 b hsh hHG l hl;generalize (⟨(Ln.text s.ln c).toArray⟩:av)=tx at *;generalize Ln.text s.ln c=tt at *;go_enter func63,ntmps63;go_wp2_with fail
 refine HF.o.mono ?_;rintro e N ⟨rfl,uz,hT1⟩;have HR1:=H9 uz;have i:=H9 hT1
 clear uz hT1;go_wp2_with fail
 refine(tC.o N HR1.o).mono ?_;rintro e C (⟨s',rfl,G,hR2,jU⟩ | ⟨cc,hcc,rfl,G,lp2,hp2,bd2,r,jU⟩ | ⟨k,gl2,gh,D,rfl,j,htt,hph,r,hL2,hH2,jU⟩)
 . have HL:=H9 G;have HR2:=H9 hR2;have f:=H9 jU
   have c2:C.cell? ⟨g,2,U⟩=M (.bool F):=by obtain⟨_,lp1,hp1,bd1,abg,hP1,_⟩:=hR2;exact hP1.c2
   clear G hR2 jU;go_wp2;go_ret;have d:=v.o;have x:=i.o.size;have O:=f.o.size;have y:(Rq.next s c).1=s'∧(Rq.next s c).2=[]:=by rw[HN.o,HL.o];exact⟨rfl,rfl⟩
   have hej:Rq.join (es++(Rq.next s c).2)=es:=by rw[y.2,bV];exact Rq.jk es d.joined
   have P:=(d.evs.turns i.o (fun k e b=>d.apart k b.1.1 e.1)).turns f.o (fun k e b=>by
    rcases b with b | b
    . exact d.apart k b.1 e.1
    . have:=e.2;omega)
   refine .mk ao cap n _ (fun k=>So k∧k<w.heap.size) rfl (by rw[hej];exact d.len.symm) (by rw[y.1];exact HR2.o) (by rw[hej];exact P) ?_ ?_ (fun k e=>R (A e.1)) ?_
   . intro k e b;rcases e with (e | e) | e
     . exact d.apart k e.1 b.1
     . omega
     . omega
   . intro k e;rcases e with (e | e) | e
     . exact A e.1
     . exact R e
     . exact R (by omega)
   . refine(i.o.mono (fun k e=>A e.1.1)).trans (f.o.mono (S':=fun k=>(S k∨So k)∨w.heap.size<=k) (fun k e=>?_)) (fun k e j=>?_)
     . rcases e with e | e
       . exact A (A e.1)
       . exact R e
     . rcases e with e | e
       . exact e
       . omega
 . have HL:=H9 G;have uy:=H9 r;have f:=H9 jU;have M5:=H9 hcc
   have tc:((cc:Int) != 0)=true:=by rw[cO];omega
   clear G r jU hcc;go_wp2_with fail
   have d:=v.o;have x:=i.o.size;have P:=(d.evs.turns i.o (fun k e b=>d.apart k b.1.1 e.1)).turns f.o (fun k e b=>by
    rcases b with b | b
    . exact d.apart k b.1 e.1
    . have:=e.2;omega)
   refine(Fb C g _ _ _ _ _ (fun k=>So k∧k<w.heap.size) ao cap n cc es uy.o P (fun e=>d.apart g d.gm e.1) d.len (by have:=d.most;omega) d.joined d.full (by have:=d.sum;omega)).mono ?_;rintro e p ⟨jP,gW,n3,rfl,hn3,hO3,H,pE⟩;have HN3:=H9 hn3;have oC:=H9 hO3;have nA:=H9 H;have z:=H9 pE
   clear d P hn3 hO3 H pE x;go_wp2;go_ret;have d:=v.o;have x:=i.o.size;have O:=f.o.size;have y:(Rq.next s c).1.ph=4∧(Rq.next s c).2=[.fail cc]:=by rw[HN.o,HL.o];exact⟨rfl,rfl⟩
   refine .mk jP gW n3 (fun k=>k=g) _ rfl (by rw[y.2];exact HN3.o) ⟨rfl,_,_,_,_,nA.o,.dead cc M5.o y.1⟩ (by rw[y.2];exact oC.o) ?_ (fun k e=>by rw[e];exact A d.gm) ?_ ?_
   . intro k e b;subst e;have:=d.lt;rcases b with b | b
     . exact d.apart k d.gm b.1
     . omega
   . intro k e;rcases e with e | e
     . exact R (A e.1)
     . exact R (R (by omega))
   . refine(i.o.mono (fun k e=>A e.1.1)).trans ((f.o.mono (S':=fun k=>(S k∨So k)∨w.heap.size<=k) (fun k e=>?_)).trans (z.o.mono (fun k e=>?_)) (fun _ e _=>e)) (fun k e j=>?_)
     . rcases e with e | e
       . exact A (A e.1)
       . exact R e
     . rcases e with e | e
       . exact A (R e.1)
       . rw[e];exact A (A d.gm)
     . rcases e with e | e
       . exact e
       . omega
 . have uy:=H9 r;have HL2:=H9 hL2;have f:=H9 jU;have HK:=H9 j;have HTt:=H9 htt;have HPh:=H9 hph
   have c2:=r.c2;have Db:=H9 (XK C g gh _ _ _ _ r hH2 (fun e=>e.1.2 rfl));have hkr:=Rq.xC j;clear r hL2 jU j htt hph hH2;go_wp2_with fail
   refine Db.o.mono ?_;rintro e p ⟨fo,gL,rfl,H,hV3,pE⟩;have nA:=H9 H;have HV3:=H9 hV3;have z:=H9 pE
   clear H hV3 pE;go_wp2_with fail
   have d:=v.o;have x:=i.o.size;have O:=f.o.size;have hs3:=z.o.size;have T:=d.lt;have B:Below p.heap.size p (p.alloc (.cells #[V ⟨s.hd.method.toArray⟩,V ⟨s.hd.target.toArray⟩,I J (s.hd.minor:Int),Z fo s.hd.fields.length gL,I J k] 68)):=(fI _ _).alloc (aL _) _;have hzA:(p.alloc (.cells #[V ⟨s.hd.method.toArray⟩,V ⟨s.hd.target.toArray⟩,I J (s.hd.minor:Int),Z fo s.hd.fields.length gL,I J k] 68)).heap.size=p.heap.size+1:=by simp
   have hE3:=((((d.evs.turns i.o (fun k e b=>d.apart k b.1.1 e.1)).turns f.o (fun k e b=>by
    rcases b with b | b
    . exact d.apart k b.1 e.1
    . have:=e.2;omega)).turns z.o (fun k e b=>d.apart g d.gm (b▸e.1))).stay B)
   have Yx:=(HV3.o.mono (S':=fun k=>((gM (fun k=>S k∧k<w.heap.size) w k∧k≠g)∧D k)∧k<p.heap.size) (fun k j e=>⟨e,j⟩)).turns (Turns.of_below (S:=fun _=>False) B) (fun _ _ e=>e);refine(XI _ (fun k=>So k∧k<w.heap.size) (fun k=>((gM (fun k=>S k∧k<w.heap.size) w k∧k≠g)∧D k)∧k<p.heap.size) ao fo cap n gL s.hd.fields.length { s.hd with length:=k } es hE3 Yx rfl (fun k e b=>?_) d.len (by have:=d.most;omega) d.joined d.full (by have:=d.sum;omega)).mono ?_
   . rcases b.1.1.1 with q | q
     . exact d.apart k q.1 e.1
     . have:=e.2;omega
   rintro e u ⟨xR,L,n4,rfl,J9,hO4,ET⟩;have hs4:=ET.size;have c4:=Un ET (fun e=>by have:=e.2;omega);have hadd:=added d.len J9 (fun a e=>by cases e) d.full;have W:=(nA.o.stay B).turns ET (fun e=>d.apart g d.gm e.1);have hL4:=(((HL2.o.mono (S':=fun k=>((gM (fun k=>S k∧k<w.heap.size) w k∧k≠g)∧¬D k)∧k<C.heap.size) (fun k j e=>⟨e,j⟩)).turns z.o (fun k e=>e.1.1.2)).turns (Turns.of_below (S:=fun _=>False) B) (fun _ _ e=>e)).turns ET (fun k e b=>by
    rcases e.1.1.1 with q | q
    . exact d.apart k q.1 b.1
    . have:=b.2;omega)
   have afg:=hO4.mono (S':=fun k=>((So k∧k<w.heap.size)∨(((gM (fun k=>S k∧k<w.heap.size) w k∧k≠g)∧D k)∧k<p.heap.size)∨p.heap.size+1<=k)∧k<u.heap.size) (fun k j e=>⟨by rw[hzA] at e;exact e,j⟩);have afh:Turns (fun k=>(S k∨So k)∨w.heap.size<=k) w u:=by
    refine(i.o.mono (fun k e=>A (A e.1.1))).trans ((f.o.mono (fun k e=>?_)).trans ((z.o.mono (fun k e=>by rw[e];exact A (A d.gm))).trans ((Turns.of_below B).trans (ET.mono (fun k e=>A (R e.1))) (fun _ e _=>e)) (fun _ e _=>e)) (fun _ e _=>e)) (fun _ e _=>e);rcases e with e | e
    . exact A (A e.1)
    . exact R e
   have hNx:Rq.next s c=if k=0 then ({ s with ln:=Ln.start,ph:=0 },[.head { s.hd with length:=k },.fin]) else if 0<k then ({ s with ln:=Ln.start,ph:=2,left:=k.toNat },[.head { s.hd with length:=k }]) else ({ s with ln:=Ln.start,ph:=3,ck:=Ck.start },[.head { s.hd with length:=k }]):=by
    have hk':Rq.len s.hd=.inr k:=HK.o;have hp1:s.ph=1:=HPh.o;rw[HN.o,HTt.o];unfold Rq.line;rw[if_neg (by show ¬s.ph=0;omega),if_pos rfl];simp only[hk']
   have ab3:p.heap.size+1<=u.heap.size:=by rw[<-hzA];exact hs4
   have HP4:=H9 W;have HL4:=H9 hL4;have wu:=H9 afg;have acV:=H9 afh;have Tt:=H9 hadd;have HN4:=H9 J9;have OI:=H9 hNx
   have CK:Hid (w.heap.size<=N.heap.size∧N.heap.size<=C.heap.size∧C.heap.size<=p.heap.size∧p.heap.size+1<=u.heap.size):=⟨x,O,hs3,ab3⟩;have p3:=W.c3;have pf3:=W.fz 3;clear d x O hs3 hs4 T B hzA hE3 Yx J9 hO4 ET hadd W hL4 afg afh hNx ab3 c0 c2;have zf:Hid (∀k,((((gM (fun k=>S k∧k<w.heap.size) w k∧k≠g)∧¬D k)∧k<C.heap.size)∨k=g)->¬(((So k∧k<w.heap.size)∨(((gM (fun k=>S k∧k<w.heap.size) w k∧k≠g)∧D k)∧k<p.heap.size)∨p.heap.size+1<=k)∧k<u.heap.size)):=fun k e b=>by
    have d:=v.o;have T:=d.lt;obtain⟨s1,s2,s3,s4⟩:=CK.o;rcases e with e | e
    . rcases b.1 with b | b | b
      . rcases e.1.1.1 with q | q
        . exact d.apart k q.1 b.1
        . have:=b.2;omega
      . exact e.1.2 b.1.2
      . have:=e.2;omega
    . subst e;rcases b.1 with b | b | b
      . exact d.apart k d.gm b.1
      . exact b.1.1.2 rfl
      . omega
   have acW:Hid (∀k,((((gM (fun k=>S k∧k<w.heap.size) w k∧k≠g)∧¬D k)∧k<C.heap.size)∨k=g)->S k∨w.heap.size<=k):=fun k e=>by
    rcases e with e | e
    . rcases e.1.1.1 with q | q
      . exact A q.1
      . exact R q
    . rw[e];exact A v.o.gm
   have aad:Hid (∀k,(((So k∧k<w.heap.size)∨(((gM (fun k=>S k∧k<w.heap.size) w k∧k≠g)∧D k)∧k<p.heap.size)∨p.heap.size+1<=k)∧k<u.heap.size)->S k∨So k∨w.heap.size<=k):=fun k e=>by
    obtain⟨s1,s2,s3,s4⟩:=CK.o;rcases e.1 with e | e | e
    . exact R (A e.1)
    . rcases e.1.1.1 with q | q
      . exact A q.1
      . exact R (R q)
    . exact R (R (by omega))
   by_cases hk0:k=0
   . subst hk0;go_wp2_with fail
     obtain⟨a1,a2,a3,a4⟩:=Tt.o;refine(JO u _ xR L n4 _ wu.o HN4.o.symm (by have:=v.o.most;omega) a4 a3 (by have:=v.o.sum;omega)).mono ?_;rintro e w5 ⟨CB,cap5,n5,rfl,U1,Ez,xP⟩;have HN5:=H9 U1;have tF:=H9 Ez;have Xl:=H9 xP
     clear U1 Ez xP a1 a2 a3 a4;go_wp2;go_ret;have l:=OI.o;first | rw[if_pos rfl] at l | rw[if_pos trivial] at l | skip
     obtain⟨s1,s2,s3,s4⟩:=CK.o;have hj2:Rq.join (Rq.join (es++[.head { s.hd with length:=0 }])++[.fin])=Rq.join (es++(Rq.next s c).2):=by rw[l];exact Rq.KJ es [_] [.fin]
     refine .mk CB cap5 n5 (fun k=>(((gM (fun k=>S k∧k<w.heap.size) w k∧k≠g)∧¬D k)∧k<C.heap.size)∨k=g) _ rfl (by rw[<-hj2];exact HN5.o) ?_ (by rw[<-hj2];exact tF.o) ?_ acW.o ?_ ?_
     . rw[l];refine⟨R rfl,_,_,_,_,HP4.o.turns Xl.o (fun e=>zf.o g (R rfl) e),.Jo gl2 rfl ((HL4.o.turns Xl.o (fun k e b=>zf.o k (A e) b)).mono (fun k _ e=>⟨A e,e.1.1.2⟩))⟩
     . intro k e b;rcases b with b | b | b
       . exact zf.o k e b
       . exact b
       . rcases e with e | e
         . have:=e.2;omega
         . have:=v.o.lt;omega
     . intro k e;rcases e with e | e | e
       . exact aad.o k e
       . exact e.elim
       . exact R (R (by omega))
     . have h:=acV.o.trans (Xl.o.mono (S':=fun k=>(S k∨So k)∨w.heap.size<=k) (fun k e=>by
        rcases aad.o k e with e | e | e
        . exact A (A e)
        . exact A (R e)
        . exact R e)) (fun _ e _=>e)
       exact⟨h.os,h.tape,h.output,h.size,fun k j hn=>h.block k j (fun e=>by
        rcases e with e | e
        . exact hn e
        . omega)⟩
   . have tk:(k==0)=F:=aR.2 hk0;by_cases hk1:0<k
     . obtain⟨m,rfl⟩:∃m:Nat,k=(m:Int):=⟨k.toNat,by omega⟩;have Yz:=H9 (JQ u m (by omega));have HM:=H9 hk1;go_wp2_with fail
       refine Yz.o.mono ?_;rintro e w5 ⟨rfl,A8,t⟩;have M9:=HP4.o.stay t;have q3:=M9.c3;have qf3:=M9.fz 3;have HP5:=H9 M9;have qX:=H9 A8;have Pz:=H9 t
       clear M9 A8 t;go_wp2;go_ret;have l:=OI.o;rw[if_neg hk0,if_pos HM.o] at l;obtain⟨s1,s2,s3,s4⟩:=CK.o;have T:=v.o.lt;have CP:=Turns.setCell (fun k=>k=g) w5 ⟨g,3,U⟩ (.iface 206 (Q (M ⟨u.heap.size,0,U⟩))) rfl;refine .mk xR L n4 (fun k=>((((gM (fun k=>S k∧k<w.heap.size) w k∧k≠g)∧¬D k)∧k<C.heap.size)∨k=g)∨k=u.heap.size) _ rfl (by rw[l];exact HN4.o) ?_ (by rw[l];exact(wu.o.stay Pz.o).turns CP (fun k e b=>zf.o k (R b) e)) ?_ ?_ aad.o ?_
       . rw[l];refine⟨A (R rfl),_,_,_,_,HP5.o.s3 _,.at2 gl2 u.heap.size rfl (((HL4.o.turns (Turns.of_below (S:=fun _=>False) Pz.o) (fun _ _ e=>e)).turns CP (fun k e=>e.1.1.2)).mono (fun k _ e=>⟨⟨A (A e),e.1.1.2⟩,by have:=e.2;omega⟩)) ⟨R rfl,by omega⟩ ?_⟩;have:=CP.row qX.o (by omega);rw[this];simp
       . intro k e b;rcases e with e | e
         . exact zf.o k e b
         . have:=b.2;omega
       . intro k e;rcases e with e | e
         . exact acW.o k e
         . exact R (by omega)
       . have h:=acV.o.trans ((Turns.of_below (S:=fun k=>(S k∨So k)∨w.heap.size<=k) Pz.o).trans (CP.mono (S':=fun k=>(S k∨So k)∨w.heap.size<=k) (fun k e=>by rw[e];exact A (A v.o.gm))) (fun _ e _=>e)) (fun _ e _=>e);exact⟨h.os,h.tape,h.output,h.size,fun k j hn=>h.block k j (fun e=>by
          rcases e with e | e
          . exact hn e
          . omega)⟩
     . obtain rfl:k=-1:=by omega
       have Yz:=H9 (Ga u);go_wp2_with fail
       refine Yz.o.mono ?_;rintro e w5 ⟨gb,rfl,A8,t⟩;have M9:=HP4.o.stay t;have q3:=M9.c3;have qf3:=M9.fz 3;have HP5:=H9 M9;have qX:=H9 A8;have Pz:=H9 t
       clear M9 A8 t;go_wp2;go_ret;have l:=OI.o;rw[if_neg (by omega),if_neg (by omega)] at l;obtain⟨s1,s2,s3,s4⟩:=CK.o;have T:=v.o.lt;have CP:=Turns.setCell (fun k=>k=g) w5 ⟨g,3,U⟩ (.iface 204 (Q (M ⟨gb,0,U⟩))) rfl;refine .mk xR L n4 (fun k=>((((gM (fun k=>S k∧k<w.heap.size) w k∧k≠g)∧¬D k)∧k<C.heap.size)∨k=g)∨u.heap.size<=k) _ rfl (by rw[l];exact HN4.o) ?_ (by rw[l];exact(wu.o.stay Pz.o).turns CP (fun k e b=>zf.o k (R b) e)) ?_ ?_ aad.o ?_
       . rw[l];refine⟨A (R rfl),_,_,_,_,HP5.o.s3 _,.at3 gl2 gb (fun k=>u.heap.size<=k) rfl (((HL4.o.turns (Turns.of_below (S:=fun _=>False) Pz.o) (fun _ _ e=>e)).turns CP (fun k e=>e.1.1.2)).mono (fun k _ e=>⟨⟨A (A e),e.1.1.2⟩,by have:=e.2;omega⟩)) ((qX.o.turns CP (fun k e b=>by omega)).mono (fun k _ e=>⟨⟨R e,by omega⟩,e⟩))⟩
       . intro k e b;rcases e with e | e
         . exact zf.o k e b
         . have:=b.2;omega
       . intro k e;rcases e with e | e
         . exact acW.o k e
         . exact R (by omega)
       . have h:=acV.o.trans ((Turns.of_below (S:=fun k=>(S k∨So k)∨w.heap.size<=k) Pz.o).trans (CP.mono (S':=fun k=>(S k∨So k)∨w.heap.size<=k) (fun k e=>by rw[e];exact A (A v.o.gm))) (fun _ e _=>e)) (fun _ e _=>e);exact⟨h.os,h.tape,h.output,h.size,fun k j hn=>h.block k j (fun e=>by
          rcases e with e | e
          . exact hn e
          . omega)⟩
theorem JW (w:X)(S So:Nat->Prop)(g:Nat)(s:Rq.St)(c:UInt8)(ao:aj)(cap n:Nat)(es:List Rq.Ev)(h:jH w S g s)(a:Rq.Good s)(b:s.ph=0∨s.ph=1)(d:nV w So ao cap es)(hd:∀k,S k->¬So k)(f:es.length=n)(j:n<=90000)(i:Rq.Joined es)(l:Rq.Full es)(m:Rq.jD es<=90000):
 Calls prog 63 #[Q (M ⟨g,0,U⟩),Z ao n cap,I .u8 c.toNat] w fun e w'=>nJ w S So g s c es e w':=by
 by_cases o:(Ln.next s.ln c).code=0
 . cases p:Ln.ends s.ln c
   . exact Gi w S So g s c ao cap n es h a b o p d hd f i
   . exact JV w S So g s c ao cap n es h a b p d hd f j i l m
 . exact Gh w S So g s c ao cap n es h a b o d hd f j i l m
theorem JX (w:X)(S So:Nat->Prop)(g:Nat)(s:Rq.St)(c:UInt8)(ao:aj)(cap n:Nat)(es:List Rq.Ev)(h:jH w S g s)(b:Rq.Good s)(a:s.ph=2∨s.ph=3)(d:nV w So ao cap es)(hd:∀k,S k->¬So k)(f:es.length=n)(i:n<=90000)(j:Rq.Joined es)(l:Rq.Full es)(m:Rq.jD es<=90000):
 Calls prog 64 #[Q (M ⟨g,0,U⟩),Z ao n cap,I .u8 c.toNat] w fun e w'=>nJ w S So g s c es e w':=by
 rcases a with a | a
 . exact Fe w S So g s c ao cap n es h b a d hd f i j l m
 . by_cases o:s.ck.ph=1
   . exact Gb w S So g s c ao cap n es h b a o d hd f i j l m
   . exact Gd w S So g s c ao cap n es h b a o d hd f i j l m
structure Fx (w:X)(S:Nat->Prop)(g:Nat)(s:Rq.St)(l:au)(k:Nat)(ao:aj)(cap n:Nat)(wr:X):Prop where
 len:n=(Rq.join (Rq.outs s (l.take k))).length
 two:∃S' So',jH wr S' g (Rq.fold s (l.take k))∧nV wr So' ao cap (Rq.join (Rq.outs s (l.take k)))∧(∀i,S' i->¬So' i)∧(∀i,S' i->S i∨w.heap.size<=i)∧(∀i,So' i->S i∨w.heap.size<=i)
 turns:Turns S w wr
inductive PD (w:X)(S:Nat->Prop)(g:Nat)(s:Rq.St)(l:au)(e:Ending)(w':X):Prop
 | mk (ao:aj) (cap n:Nat) (S' So':Nat->Prop) (he:e=Y (Z ao n cap)) (hn:n=(Rq.join (Rq.outs s l)).length) (hR:jH w' S' g (Rq.fold s l)) (hO:nV w' So' ao cap (Rq.join (Rq.outs s l))) (hd:∀i,S' i->¬So' i) (hS:∀i,S' i->S i∨w.heap.size<=i) (hSo:∀i,So' i->S i∨w.heap.size<=i) (hT:Turns S w w')
theorem Fx.done {w:X}{S:Nat->Prop}{g:Nat}{s:Rq.St}{l:au}{k:Nat}{ao:aj}{cap n:Nat}{wr:X}(h:Fx w S g s l k ao cap n wr)(b:Rq.outs s l=Rq.outs s (l.take k))(c:Rq.fold s l=Rq.fold s (l.take k)):PD w S g s l (Y (Z ao n cap)) wr:=by
 obtain⟨d,a,e,f,i,j,m⟩:=h.two;exact .mk ao cap n d a rfl (by rw[b];exact h.len) (by rw[c];exact e) (by rw[b];exact f) i j m h.turns
theorem Fx.step {w:X}{S:Nat->Prop}{g:Nat}{s:Rq.St}{l:au}{k:Nat}{S' b:Nat->Prop}{wr w':X}{o:aj}{a p:Nat}(u:k<l.length)(d:∀i,S' i->S i∨w.heap.size<=i)(c:∀i,b i->S i∨w.heap.size<=i)(q:Turns S w wr)
 (h:nJ wr S' b g (Rq.fold s (l.take k)) l[k] (Rq.join (Rq.outs s (l.take k))) (Y (Z o p a)) w'):Fx w S g s l (k+1) o a p w':=by
 obtain⟨O,P,T,v,f,j,x,y,z,B,C,m,D⟩:=h;injection j with j;injection j with G H L;subst G;subst H;subst L;have r:l.take (k+1)=l.take k++[l[k]]:=bN u;have t:Rq.join (Rq.outs s (l.take (k+1)))=Rq.join (Rq.join (Rq.outs s (l.take k))++(Rq.next (Rq.fold s (l.take k)) l[k]).2):=by
  rw[r,Rq.AL,Rq.qP]
 have n:Rq.fold s (l.take (k+1))=(Rq.next (Rq.fold s (l.take k)) l[k]).1:=by rw[r,Rq.oI]
 have N:=q.size;refine⟨by rw[t];exact x,⟨v,f,by rw[n];exact y,by rw[t];exact z,B,fun i e=>?_,fun i e=>?_⟩,q.trans D (fun i e W=>?_)⟩
 . rcases C i e with e | e
   . exact d i e
   . exact R (by omega)
 . rcases m i e with e | e | e
   . exact d i e
   . exact c i e
   . exact R (by omega)
 . rcases e with e | e
   . rcases d i e with e | e
     . exact e
     . omega
   . rcases c i e with e | e
     . exact e
     . omega
theorem MG (w:X)(S:Nat->Prop)(g:Nat)(s:Rq.St)(l:au)(bo:aj)(gJ n:Nat)(h:jH w S g s)(hG:Rq.Good s)(hB:iG w bo gJ l)(rC:l≠[]->∀a,bo=M a->¬S a.block)(hn:l.length=n)(hl:n<=40000):
 Calls prog 34 #[Q (M ⟨g,0,U⟩),Z bo n gJ] w fun e w'=>PD w S g s l e w':=by
 subst hn;have HB:=H9 hB;have HR:=H9 h;have HG:=H9 hG;have Yz:=H9 rC
 clear hB h hG rC;go_enter func34,ntmps34;go_wp2;go_loopw [5,10] (fun vo vi wr=>∃(k:Nat) (ao:aj) (j n:Nat),k<=l.length∧vi=I J k∧vo=Z ao n j∧Fx w S g s l k ao j n wr) (fun _ vi _=>l.length-(intOf vi).toNat)
 case atStart =>
  refine⟨0,U,0,0,ay _,rfl,rfl,⟨rfl,⟨S,fun _=>False,HR.o,.bare,fun _ _ e=>e,fun _ e=>A e,fun _ e=>e.elim⟩,Turns.refl _ _⟩⟩
 case round =>
  obtain⟨k,ao,j,n,hk,rfl,rfl,hF⟩:=hrel;have T:=H9 hF;clear hF;by_cases u:k<l.length
  . obtain⟨bb,oo,rfl,_⟩:=HB.o.lit (by omega);have hne:l≠[]:=by intro e;subst e;simp at u
    have hbc:=(HB.o.turns T.o.turns (fun a e=>Yz.o hne a e)).lit (by omega);obtain⟨b2,o2,v,q⟩:=hbc;injection v with v;injection v with hb2 ho2;subst hb2;subst ho2;have ck:=q k u;have hlt':(k:Int)<l.length:=by omega
    have hcap:=HB.o.1;obtain⟨S',x,d,Am,m,t,F9⟩:=T.o.two;have i:Rq.Good (Rq.fold s (l.take k)):=HG.o.fold _;have y:=Rq.Qv s (l.take k);have z:(l.take k).length<=40000:=by rw[bX];omega
    have p:(Rq.join (Rq.outs s (l.take k))).length=n:=T.o.len.symm;have HD:=H9 (Eb wr S' g (Rq.fold s (l.take k)) d);have IJ:Hid (∀(C:aj) (b G:Nat) (w':X),nJ wr S' x g (Rq.fold s (l.take k)) l[k] (Rq.join (Rq.outs s (l.take k))) (Y (Z C G b)) w'->Fx w S g s l (k+1) C b G w'):=fun C b G w' hfs=>Fx.step u t F9 T.o.turns hfs;by_cases W:(Rq.fold s (l.take k)).ph=4
    . rw[aH W] at HD;have N:=Rq.lS (l.drop k) (Rq.fold s (l.take k)) W;have HDn:Hid (Rq.outs s l=Rq.outs s (l.take k)∧Rq.fold s l=Rq.fold s (l.take k)):=by
       constructor
       . conv=>lhs;rw[<-bW k l,Rq.jE,N.1,bV]
       . conv=>lhs;rw[<-bW k l,Rq.jL,N.2]
      generalize l[k]=c at *;clear d Am m i y z p q W N IJ t F9;go_wp2_with (go_at_call 33;refine HD.o.mono ?_;rintro e w1 ⟨rfl,hw⟩;subst hw)
      go_ret;exact T.o.done HDn.o.1 HDn.o.2
    . rw[aI W] at HD;have hph:(Rq.fold s (l.take k)).ph=0∨(Rq.fold s (l.take k)).ph=1∨(Rq.fold s (l.take k)).ph=2∨(Rq.fold s (l.take k)).ph=3:=by have:=i.ph;omega
      by_cases O:(Rq.fold s (l.take k)).ph=0∨(Rq.fold s (l.take k)).ph=1
      . have HC:=H9 (JW wr S' x g _ l[k] ao j n _ d i O Am m p (by omega) y.2.2.2 y.2.2.1 (by omega));have c3:wr.cell? ⟨g,3,U⟩=M .nilIface:=by
         obtain⟨_,lp,hp,bd,code,hP,hI⟩:=d;cases hI with
         | dead c hc h=>omega
         | Jo P h L=>exact hP.c3
         | K5 P gh D h L H=>exact hP.c3
         | at2 P gb h L hb B=>omega
         | at3 P gb D h L B=>omega
        generalize l[k]=c at *;generalize Rq.fold s (l.take k)=sk at *;clear d Am m i y z p q W O hph t F9;go_wp2_with (first
         | (go_at_call 33;refine HD.o.mono ?_;rintro e w1 ⟨rfl,hw⟩;subst hw)
         | (go_at_call 63;refine HC.o.mono ?_;rintro e w2 f;obtain⟨C,b,G,S2,So2,he,r⟩:=id f;subst he;have Ao:=H9 f;clear f r))
        go_roundw
        case rel=>exact⟨k+1,C,b,G,by omega,by go_num,rfl,IJ.o _ _ _ _ Ao.o⟩
        case measure=>simp[intOf];omega
      . have afj:(Rq.fold s (l.take k)).ph=2∨(Rq.fold s (l.take k)).ph=3:=by omega
        have HC:=H9 (JX wr S' x g _ l[k] ao j n _ d i afj Am m p (by omega) y.2.2.2 y.2.2.1 (by omega));obtain⟨tt,vv,c3⟩:∃tt vv,wr.cell? ⟨g,3,U⟩=M (.iface tt vv):=by
         obtain⟨_,lp,hp,bd,code,hP,hI⟩:=d;cases hI with
         | dead c hc h=>omega
         | Jo P h L=>omega
         | K5 P gh D h L H=>omega
         | at2 P gb h L hb B=>exact⟨_,_,hP.c3⟩
         | at3 P gb D h L B=>exact⟨_,_,hP.c3⟩
        generalize l[k]=c at *;generalize Rq.fold s (l.take k)=sk at *;clear d Am m i y z p q W O afj hph t F9;go_wp2_with (first
         | (go_at_call 33;refine HD.o.mono ?_;rintro e w1 ⟨rfl,hw⟩;subst hw)
         | (go_at_call 64;refine HC.o.mono ?_;rintro e w2 f;obtain⟨C,b,G,S2,So2,he,r⟩:=id f;subst he;have Ao:=H9 f;clear f r))
        go_roundw
        case rel=>exact⟨k+1,C,b,G,by omega,by go_num,rfl,IJ.o _ _ _ _ Ao.o⟩
        case measure=>simp[intOf];omega
  . obtain rfl:k=l.length:=by omega
    go_wp2;go_ret;exact T.o.done (by rw[bO]) (by rw[bO])
end Go.Proofs.YtjmndjmhjleabaaGreatDoor