import Derived.Test.YtmbghcpcbdjfoaaGreatDoorPk28
import Derived.Test.YtmbghcpcbdjfoaaGreatDoorRqA
open Go.Value renaming int->I,string->V,slice->Z,pointer->Q
open Go.IntKind renaming i64->J
open Go.Obj renaming cells->K
open Go.Ending renaming returned->Y
open Option renaming none->U,some->M
open Bool renaming false->F
open Or renaming inl->A,inr->R
open Go renaming World->X
set_option maxHeartbeats 4000000
set_option maxRecDepth 100000
open Go.Proofs.Tryz
namespace Go.Proofs.YtmbghcpcbdjfoaaGreatDoor
open Go.RowKit
theorem bG.q {w:X}{S:Nat->Prop}{y g b i:Nat}{s:aA}(h:gY w S y 92 5 g s)(H:lG w g b s.l.length)(L:i<s.l.length):∃q:eJ,w.cell? ⟨b,i*5+3,U⟩=M (Z q.a s.l[i].a.length q.b)∧bM w (fun _=>True) 5 q.a q.b s.l[i].a ∧
 (∀c,al (fun k=>ct s.l[i].a q.a=M k) w c->c.cell? ⟨b,i*5+3,U⟩=M (Z q.a s.l[i].a.length q.b)∧c.frozen? ⟨b,i*5+3,U⟩=F) ∧
 ∀c j m bs n (r:aA×Nat),bM c (fun k=>ct s.l[i].a q.a=M k∨w.heap.size<=k) 5 j m bs->al (fun k=>ct s.l[i].a q.a=M k) w c->n=bs.length->r=(⟨s.l.set i { s.l[i] with a:=bs },s.a⟩,0)->bG S y w g r (Y (I J 0)) (c.setCell ⟨b,i*5+3,U⟩ (Z j n m)):=by
 obtain⟨ao,p,N,c1,f0,f1,z,T,W⟩:=h.e;obtain⟨B,Za,o⟩:=H;rw[N] at o;injection o with o;injection o with ha _ _;subst ha;obtain⟨g2,q,d,hS2,f,h0,h1,h2,C,h4,hf,t,hK⟩:=W.r i L;injection d with d;injection d with d;subst d;have u:ct s.l[i].a q.a≠M b:=fun e=>(t.j e).1.2 rfl;have hng:ct s.l[i].a q.a≠M g:=fun e=>(t.j e).1.1.2 rfl;refine⟨q,C,t.e (fun _ _ _=>trivial),fun c v=>?_,fun c j m bs n r hB v hn hr=>?_⟩
 . have D:=v.c b f u;exact⟨by rw[wy (a:=⟨b,i*5+3,U⟩) D];exact C,by rw[wA (a:=⟨b,i*5+3,U⟩) D];exact hf _⟩
 . subst hr;obtain⟨x,G⟩:=hK c j m bs n hB v hn;have hgl:=(bH.1 z).1;refine⟨rfl,⟨M ⟨b,0,U⟩,p,?_,A T,?_⟩,G.e (fun k e=>e.1)⟩
   . have:=G.j z (fun e=>e.2 rfl);simpa using this
   . refine x.a (fun k _ e=>?_);rcases e with e | e
     . exact⟨A e.1,e.2⟩
     . exact⟨R e,by omega⟩
theorem Oo (s:aA)(S:Nat->Prop)(g G i b1 H L:Nat)(f:Int)(N:ai)(m d:Nat)(b:ae)(w:X)(h:cE w S g s)(hp:lG w g G s.l.length)(hi:i<s.l.length)(ok:cO s)
 (d1:w.cell? ⟨b1,0,U⟩=M (I J f)) (d2:w.cell? ⟨H,0,U⟩=M (Z N d m)) (d3:w.cell? ⟨L,0,U⟩=M (Q (M ⟨g,0,U⟩))) (hb:ay w N m b) (v:b.length=d) (hN:d<=1000000) :
 Calls prog 253 #[Q (M ⟨G,i*5,U⟩),Q (M ⟨b1,0,U⟩),Q (M ⟨H,0,U⟩),Q (M ⟨L,0,U⟩)] w (bG S 121 w g (kw s f b i s.l[i])):=by
 obtain⟨q,h0,h1,h2,h3,h4,hf,hB⟩:=lG.a h hp hi;have hk:=ok.a _ (dG hi);have k0:=hk.d;have k1:=hk.e;have k2:=hk.a;have k3:=hk.g
 have hq:=ok.d;have nN:=ok.b
 by_cases hs:s.l[i].e=0
 . have e1:¬s.l[i].e≠0:=by simpa using hs
   rw[hs] at h4;by_cases T:f=s.l[i].a.length
   . have e2:¬f≠s.l[i].a.length:=by simpa using T
     have HM:=fun n=>SX G (i*5) s.l[i].c (w.drewN n) (by rw[World.cell?_drewN];exact h1);have HU:=fun W (y:Below w.heap.size w W)=>Rx s S g W (h.a y) (by omega) (by omega);by_cases hl:(if s.l[i].c=-1 then 2000 else s.l[i].c)<(s.l[i].a.length:Int)+d
     . have z:∀W,Below w.heap.size w W->bG S 121 w g (kw s f b i s.l[i]) (Y (I J (4:Nat))) W:=fun W y=>bG.a h y (by
        unfold kw;rw[if_neg e1,if_neg e2,if_pos];rw[v];split at hl <;> omega)
       generalize s.l[i]=u at *;generalize (if u.c=-1 then 2000 else u.c)=mo at *;have hw1:IntKind.i64.wrap ((u.a.length:Int)+d)=(u.a.length:Int)+d:=iY (by omega) (by omega);subst T;go_enter func253,ntmps253;go_wp2;go_quiet (fail)
       go_wp2;go_quiet ((go_at_call 254;exact(HM _).mono (fun e j D=>⟨D.1,_,D.2⟩)))
       go_wp2;go_ret;exact z _ ⟨rfl,rfl,rfl,ak _,fun _ _=>rfl⟩
     . have e3:¬(2000<s.l[i].a.length+b.length∨(0<=s.l[i].c∧s.l[i].c<(s.l[i].a.length:Int)+b.length)):=by
        rw[v];split at hl <;> omega
       have HC:∀W,Below w.heap.size w W->W.cell? ⟨H,0,U⟩=M (Z N d m)∧W.cell? ⟨L,0,U⟩=M (Q (M ⟨g,0,U⟩)) :=fun W y=>⟨by rw[y.cell (p:=⟨H,0,U⟩) (bI w _ d2)];exact d2,by rw[y.cell (p:=⟨L,0,U⟩) (bI w _ d3)];exact d3⟩;have n3:¬((s.l[i].a.length:Int)+d > if s.l[i].c=-1 then 2000 else s.l[i].c):=by omega
       by_cases hu:6000<cH s.l+d
       . have z:∀W,Below w.heap.size w W->bG S 121 w g (kw s f b i s.l[i]) (Y (I J (16:Nat))) W:=fun W y=>bG.a h y (by
          unfold kw;rw[if_neg e1,if_neg e2,if_neg e3,if_pos (by rw[v];exact hu)])
         generalize s.l[i]=u at *;generalize (if u.c=-1 then 2000 else u.c)=mo at *;have hw1:IntKind.i64.wrap ((u.a.length:Int)+d)=(u.a.length:Int)+d:=iY (by omega) (by omega);have hw2:IntKind.i64.wrap ((cH s.l:Int)+d)=(cH s.l:Int)+d:=iY (by omega) (by omega);have tu:decide ((cH s.l:Int)+d > 6000)=true:=by rw[bS];omega
         generalize cH s.l=us at *;subst T;go_enter func253,ntmps253;go_wp2;go_quiet (fail)
         go_wp2;go_quiet ((go_at_call 254;exact(HM _).mono (fun e j D=>⟨D.1,_,D.2⟩)))
         go_wp2;go_region_held3 (fun w'=>w'.cell? ⟨H,0,U⟩=M (Z N d m)∧w'.cell? ⟨L,0,U⟩=M (Q (M ⟨g,0,U⟩))) (go_keep) (first | (go_at_call 255;refine(HU _ ?_).mono ?_;(exact⟨rfl,rfl,rfl,ak _,fun _ _=>rfl⟩);rintro e j ⟨rfl,t⟩;have a:Below w.heap.size w j:=ar (lF w _) t;obtain⟨c2,c3⟩:=HC j a;have B:=aa a;clear t a))
         all_goals
          go_wp2;go_ret;exact z _ B.o
       . have z:Hid (∀j,Below w.heap.size w j->∃x:eJ,j.cell? ⟨G,i*5+3,U⟩=M (Z x.a s.l[i].a.length x.b)∧bM j.drew (fun _=>True) 5 x.a x.b s.l[i].a ∧
          (∀C,al (fun k=>ct s.l[i].a x.a=M k) j.drew C->C.cell? ⟨G,i*5+3,U⟩=M (Z x.a s.l[i].a.length x.b)∧C.frozen? ⟨G,i*5+3,U⟩=F) ∧
          ∀C oZ kE,bM C (fun k=>ct s.l[i].a x.a=M k∨j.drew.heap.size<=k) 5 oZ kE (s.l[i].a++b)->al (fun k=>ct s.l[i].a x.a=M k) j.drew C->bG S 121 w g (kw s f b i s.l[i]) (Y (I J 0)) (C.setCell ⟨G,i*5+3,U⟩ (Z oZ (s.l[i].a.length+d) kE))):=fun j t=>by
          have a:=t.trans (bA _ _);obtain⟨x,g1,g2,g3,g4⟩:=bG.q (h.a a) (hp.e a) hi;refine⟨x,g1,g2,g3,fun C oZ kE hB hT=>bG.f a (g4 C oZ kE _ _ _ hB hT (by rw[aF,v]) ?_)⟩;unfold kw;rw[if_neg e1,if_neg e2,if_neg e3,if_neg (by rw[v];exact hu)]
         have HBS:=fun j (y:Below w.heap.size w j)=>ay.a (ay.a hb y) (bA _ j);obtain⟨i0,hi0,hz0,hz1,hz2⟩:=info_parts il;have Hi:=hi0;have kT:=aa hz0;have kL:=aa hz1;have kU:=aa hz2
         generalize s.l[i]=u at *;generalize (if u.c=-1 then 2000 else u.c)=mo at *;have hw1:IntKind.i64.wrap ((u.a.length:Int)+d)=(u.a.length:Int)+d:=iY (by omega) (by omega);have hw2:IntKind.i64.wrap ((cH s.l:Int)+d)=(cH s.l:Int)+d:=iY (by omega) (by omega);have tu:decide ((cH s.l:Int)+d > 6000)=F:=by rw[cz];omega
         generalize cH s.l=us at *;subst T;go_enter func253,ntmps253;go_wp2;go_quiet (fail)
         go_wp2;go_quiet ((go_at_call 254;exact(HM _).mono (fun e j D=>⟨D.1,_,D.2⟩)))
         go_wp2;go_region_held3 (fun w'=>w'.cell? ⟨H,0,U⟩=M (Z N d m)∧w'.cell? ⟨L,0,U⟩=M (Q (M ⟨g,0,U⟩))) (go_keep) (first | (go_at_call 255;refine(HU _ ?_).mono ?_;(exact⟨rfl,rfl,rfl,ak _,fun _ _=>rfl⟩);rintro e j ⟨rfl,t⟩;have a:Below w.heap.size w j:=ar (lF w _) t;obtain⟨c2,c3⟩:=HC j a;have B:=aa a;clear t a))
         all_goals
          obtain⟨x,g1,g2,g3,g4⟩:=z.o j B.o;have HG:=g2;have HKp:=aa g3;have QZ:=aa g4
          have HSr:=HBS j B.o;go_wp2;go_region_law ((refine Cn (by rfl) _ _ _ (by rfl) 5 i0 underlying31 Hi kT.o kL.o kU.o (by rfl) (by rfl) HG rfl HSr v (by omega) ?_;intro bo3 iq w3 hO3 pW;have sG:=aa hO3;have HT3:=aa pW;obtain⟨v0,f0⟩:=HKp.o w3 pW;clear hO3 pW))
          all_goals
           go_wp2;go_ret;exact QZ.o _ _ _ sG.o HT3.o
   . have z:∀n,bG S 121 w g (kw s f b i s.l[i]) (Y (I J (17:Nat))) (w.drewN n):=fun n=>bG.a (c:=17) (r:=kw s f b i s.l[i]) h (lF w n) (by unfold kw;rw[if_neg e1,if_pos T]);generalize s.l[i]=u at *;go_enter func253,ntmps253;go_wp2;go_quiet (fail)
     go_wp2;go_ret;exact z _
 . have z:bG S 121 w g (kw s f b i s.l[i]) (Y (I J (19:Nat))) w:=bG.a h (aq _ _) (by unfold kw;rw[if_pos hs]);generalize s.l[i]=u at *;go_enter func253,ntmps253;go_wp2;go_ret;exact z
theorem mp (w:X)(v:Value)(t k:Nat)(a:w.heap.size=k):(w.alloc (K #[v] t)).cell? ⟨k,0,U⟩=M v:=by subst a;exact World.cell?_alloc_mark w _ _ _ 0
theorem jU (w:X)(o:Obj)(k:Nat)(v:Value)(h:w.cell? ⟨k,0,U⟩=M v):(w.alloc o).cell? ⟨k,0,U⟩=M v:=by
 rw[((aq w.heap.size w).alloc (ak _) o).cell (p:=⟨k,0,U⟩) (bI w _ h)];exact h
theorem FE (s:aA)(S:Nat->Prop)(g:Nat)(id:Int)(w:X)(h:cE w S g s)(ok:cO s):
 Calls prog 152 #[Q (M ⟨g,0,U⟩),I J id] w (bG S 121 w g (lj s id)):=by
 have a:=Ok s S g id w h (by have:=ok.b;omega) (ri s) (fun c i d f _ j k=>Ow s S g d i c j k f);rw[<-Qq] at a;generalize lj s id=r at *;go_enter func152,ntmps152;go_wp2_with fail;refine a.mono ?_;intro e m b;have l:=aa b;obtain⟨rfl,_,_⟩:=b;go_wp2;go_ret;exact l.o
theorem Dx (s:aA)(S:Nat->Prop)(g:Nat)(id:Int)(w:X)(h:cE w S g s)(ok:cO s):
 Calls prog 147 #[Q (M ⟨g,0,U⟩),I J id] w (bG S 121 w g (jP s id)):=by
 have a:=Ol s S g id w h (by have:=ok.b;omega) (pg s) (fun c i d f _ j k=>OA s S g d i c j k f);rw[<-Qo] at a;generalize jP s id=r at *;go_enter func147,ntmps147;go_wp2_with fail;refine a.mono ?_;intro e m b;have l:=aa b;obtain⟨rfl,_,_⟩:=b;go_wp2;go_ret;exact l.o
theorem CN (s:aA)(S:Nat->Prop)(g:Nat)(id a:Int)(w:X)(h:cE w S g s)(ok:cO s):
 Calls prog 212 #[Q (M ⟨g,0,U⟩),I J id,I J a] w (bG S 121 w g (li s id a)):=by
 have c:Below w.heap.size w (w.alloc (K #[I J a] 3)):=(aq _ _).alloc (ak _) _;have d:=Om s S g id (w.alloc (K #[I J a] 3)) (h.a c) (by have:=ok.b;omega) w.heap.size (kv s a) (fun l i m f n o q=>OB s S g m i w.heap.size a l o q f (ok.a _ (dG f)).d (by rw[n.cell (p:=⟨w.heap.size,0,U⟩) (by simp)];exact World.cell?_alloc_mark w _ _ _ 0));rw[<-Qk] at d;generalize li s id a=r at *;have u:∀(j:Fn) (first b:Array Value) (w:X),(Instr.makeFunc j first b).run prog w=.ok (.func j first b) w:=fun _ _ _ _=>rfl;go_enter func212,ntmps212;go_wp2_with fail;refine d.mono ?_;intro e v k;have t:=bG.f c k;obtain⟨rfl,_,_⟩:=k;go_wp2;go_ret;exact t
theorem Di (s:aA)(S:Nat->Prop)(g:Nat)(id a:Int)(bo:ai)(n cap:Nat)(b:ae)(w:X)(h:cE w S g s)(ok:cO s)(t:ay w bo cap b)(u:b.length=n)(v:n<=1000000):
 Calls prog 211 #[Q (M ⟨g,0,U⟩),I J id,I J a,Z bo n cap] w (bG S 121 w g (iG s id a b)):=by
 have f:Below w.heap.size w (w.alloc (K #[Q (M ⟨g,0,U⟩)] 42)):=(aq _ _).alloc (ak _) _;have j:Below w.heap.size w (((w.alloc (K #[Q (M ⟨g,0,U⟩)] 42)).alloc (K #[I J a] 3)).alloc (K #[Z bo n cap] 31)):=(f.alloc (by simp) _).alloc (by simp;omega) _;have k:∀W,Below (((w.alloc (K #[Q (M ⟨g,0,U⟩)] 42)).alloc (K #[I J a] 3)).alloc (K #[Z bo n cap] 31)).heap.size (((w.alloc (K #[Q (M ⟨g,0,U⟩)] 42)).alloc (K #[I J a] 3)).alloc (K #[Z bo n cap] 31)) W->W.cell? ⟨w.heap.size+1,0,U⟩=M (I J a)∧W.cell? ⟨w.heap.size+2,0,U⟩=M (Z bo n cap)∧W.cell? ⟨w.heap.size,0,U⟩=M (Q (M ⟨g,0,U⟩)):=fun W l=>by
  refine⟨?_,?_,?_⟩
  . rw[l.cell (p:=⟨w.heap.size+1,0,U⟩) (by simp)];exact jU _ _ _ _ (mp _ _ _ _ (by simp))
  . rw[l.cell (p:=⟨w.heap.size+2,0,U⟩) (by simp)];exact mp _ _ _ _ (by simp)
  . rw[l.cell (p:=⟨w.heap.size,0,U⟩) (by simp;omega)];exact jU _ _ _ _ (jU _ _ _ _ (mp _ _ _ _ rfl))
 have m:=On s S g id _ (h.a j) (by have:=ok.b;omega) (w.heap.size+1) (w.heap.size+2) w.heap.size (kw s a b) (fun d i x y c z B=>Oo s S g x i (w.heap.size+1) (w.heap.size+2) w.heap.size a bo cap n b d z B y ok (k d c).1 (k d c).2.1 (k d c).2.2 ((t.a j).a c) u v);rw[<-BU] at m;generalize iG s id a b=r at *;have D:∀(o:Fn) (first cap:Array Value) (w:X),(Instr.makeFunc o first cap).run prog w=.ok (.func o first cap) w:=fun _ _ _ _=>rfl;go_enter func211,ntmps211;go_wp2_with fail;refine m.mono ?_;intro e G q;have C:=bG.f j q;obtain⟨rfl,_,_⟩:=q;go_wp2;go_ret;exact C
theorem AU:(prog.info? 92).map (fun i=>(i.zero,i.size,i.bytes))=M (M (.agg #[I J 0,I J 0,V ⟨#[]⟩,Z U 0 0,I J 0]),5,64):=by kernel_rfl
theorem TK (w:X):(zeroValue 92).run prog w=.ok (.agg #[I J 0,I J 0,V ⟨#[]⟩,Z U 0 0,I J 0]) w:=by kernel_rfl
def uq:List Value:=[I J 0,I J 0,V ⟨#[]⟩,Z U 0 0,I J 0]
theorem M8 (S:Nat->Prop)(l:List aL)(b cap n i j:Nat)(w:X)(h:dY w S 92 5 (M ⟨b,0,U⟩) cap l)(hn:l.length=n)(hN:n<=1000)(hi:i<n)(hj:j=i+1):
 Calls prog 257 #[Z (M ⟨b,0,U⟩) n cap,I J i,I J j] w fun e w'=>e=Y (Z (M ⟨b,0,U⟩) (n-1) cap)∧dY w' (aB S w) 92 5 (M ⟨b,0,U⟩) cap (l.eraseIdx i)∧al (fun k=>k=b) w w':=by
 subst hn;obtain⟨p,XK,D,hK⟩:=h.B i hi;have hcap:=h.e;obtain⟨i0,v,G,y,H⟩:=info_parts AU;have hmax:cap<=9223372036854775807:=by
  rcases D.2 with ⟨e,_⟩ | ⟨g',cap',cur,e,hg,hh,hn,B,hs,s⟩
  . simp at e
  . injection e with _ _ e;subst e;exact B
 have d:=D.r (bA _ _);have r:(de p).length=l.length*5:=by rw[wO,XK]
 obtain⟨a,c⟩:∃a,a=(de p).drop ((i+1)*5):=⟨_,rfl⟩;have q:a.length=(l.length-j)*5:=by rw[c,bV,r];omega
 obtain⟨C,hA,z⟩:∃C:Addr,(if cap=j then M (⟨b,0,U⟩:Addr) else M ⟨b,j*5,U⟩)=M C∧Hid (∀t u,a[t]? = M u->w.drew.cell? (C.add t)=M u):=by
  by_cases B:cap=j
  . refine⟨⟨b,0,U⟩,by simp[B],fun t u f=>?_⟩;have h0:a.length=0:=by rw[q];omega
    rw[List.length_eq_zero_iff.1 h0] at f;simp at f
  . refine⟨⟨b,j*5,U⟩,by simp[B],fun t u f=>?_⟩;have s:t<(l.length-j)*5:=by
     have:=(fB.1 f).1;rwa[q] at this
    rw[c,List.getElem?_drop] at f;rw[ga,rG d (j*5+t) (by omega),<-f,hj]
 have s2:∀u∈a,u.oneCell'=true:=fun u f=>by
  rw[c] at f;have f:=List.mem_of_mem_drop f;obtain⟨x,_,hx⟩:=List.mem_flatMap.1 f;exact Hx _ _ u hx
 have s3:Hid (∀t,t<a.length->(w.drew.cell? ⟨b,0+i*5+t,U⟩).isSome=true∧w.drew.frozen? ⟨b,0+i*5+t,U⟩=F):=fun t s=>by
  rw[q] at s;rw[rG d (0+i*5+t) (by omega),gU (by omega)];exact⟨rfl,tM d _⟩
 obtain⟨m,g⟩:∃m,m=w.drew.setCells b (0+i*5) a:=⟨_,rfl⟩;have L:aG m 0 92 5 (M ⟨b,0,U⟩) cap l.length (pA (de p) (0+i*5) a):=by rw[g];exact d.y a (0+i*5)
 have N:i+(l.length-j)=l.length-1:=by omega
 have hcl:∀T,(Builtin.clear_ #[40] T #[Z (M ⟨b,(i+(l.length-j))*5,U⟩) (l.length-(i+(l.length-j))) (cap-(i+(l.length-j)))]).run prog m=.ok (.tuple #[]) (m.setCells b ((i+(l.length-j))*5) uq):=fun T=>by
  rw[show l.length-(i+(l.length-j))=1 by omega];refine KM m _ _ T _ underlying40 TK (by decide) b ((i+(l.length-j))*5) _ (fun t s=>?_) (fun t s=>tM L _);have s:t<5:=s;rw[rG L _ (by omega),gU (by rw[Mu];omega)];rfl
 have HE:Hid (dY (m.setCells b ((i+(l.length-j))*5) uq) (aB S w) 92 5 (M ⟨b,0,U⟩) cap (l.eraseIdx i)∧al (fun k=>k=b) w (m.setCells b ((i+(l.length-j))*5) uq)):=by
  have hT:al (fun k=>k=b) w (m.setCells b ((i+(l.length-j))*5) uq):=by
   rw[g];exact((al.d (bA _ w)).a (tS b a _ w.drew) (fun _ e _=>e)).a (tS b uq _ _) (fun _ e _=>e)
  have W:=d.E i hi uq;refine⟨(hK _ (M ⟨b,0,U⟩) cap ?_ (hT.e (fun k e=>by subst e;rfl)) (fun k e=>A e)).1,hT⟩;rw[Rw,g,c,N,dV];have e1:de (p.take i)=(de p).take (i*5):=by
   conv=>rhs;rw[<-jn i p,zd]
   rw[List.take_left' (by rw[wO,bP];omega)]
  have e2:de (p.drop (i+1))=(de p).drop ((i+1)*5):=by
   conv=>rhs;rw[<-jn (i+1) p,zd]
   rw[List.drop_left' (by rw[wO,bP];omega)]
  rw[e1,e2];exact W
 have HW:Hid (m=w.drew.setCells b (0+i*5) a):=g;have HQ:=aa N;have hic:i<=cap:=by omega
 have hjc:j<=cap:=by omega
 have hjl:j<=l.length:=by omega
 have hne:¬i=j:=by omega
 have hlt:i<j:=by omega
 have hnc:¬cap=i+(l.length-j):=by omega
 have Hi:=aa v;have kL:=aa y
 clear g L d D hK h c  r XK v G y H hj N;generalize l.length=n at *;go_enter func257,ntmps257;go_wp2_with fail;go_region_law (refine step_append_room rfl (.tmp 22) (.tmp 25) 40 rfl 92 i0 5 underlying40 Hi.o kL.o b 0 i cap (by simp[Act.eval,Act.put]) C (n-j) (cap-j) a (by simp[Act.eval,Act.put]) q z.out s2 (by omega) s3.out ?_;rw[<-HW.o])
 go_wp2;go_ret;exact⟨by rw[<-HQ.o];rfl,HE.o⟩
theorem Fa (s:aA)(S:Nat->Prop)(g:Nat)(id:Int)(w:X)(h:cE w S g s)(ok:cO s):
 Calls prog 213 #[Q (M ⟨g,0,U⟩),I J id] w (bG S 121 w g (lU s id)):=by
 have hN:=ok.b;rw[Qp];have t:=qA s S g id w h (by omega);cases m:cq s.l id with
 | none =>
   rw[rl m] at t;have C:∀W,Below w.heap.size w W->bG S 121 w g (cR s id (vU s)) (Y (I J (10:Nat))) W:=fun W c=>bG.a h c (rk m);go_enter func213,ntmps213;go_wp2_with fail;refine t.mono ?_;rintro e o ⟨rfl,c⟩;go_wp2;go_ret;exact C _ c
 | some i =>
   rw[qe m] at t;have u:=lk m;have p:cR s id (vU s)=(⟨s.l.eraseIdx i,s.a⟩,0):=rj m;go_enter func213,ntmps213;go_wp2_with fail;refine t.mono ?_;rintro e o ⟨rfl,c⟩;obtain⟨ao,a,c0,c1,f0,f1,x,y,z⟩:=(h.a c).e;obtain⟨j,rfl,q,_⟩:=z.d.a i u;have D:Calls prog 257 #[Z (M ⟨j,0,U⟩) s.l.length a,I J i,I J ((i:Int)+1)] o _:=M8 _ s.l j a s.l.length i (i+1) o z rfl (by omega) u rfl;have G:∀b,dY b (aB (fun k=>S k∧k≠g) o) 92 5 (M ⟨j,0,U⟩) a (s.l.eraseIdx i)->al (fun k=>k=j) o b->b.cell? ⟨g,0,U⟩=M (Z (M ⟨j,0,U⟩) s.l.length a)∧b.frozen? ⟨g,0,U⟩=F∧bG S 121 w g (cR s id (vU s)) (Y (I J 0)) (b.setCell ⟨g,0,U⟩ (Z (M ⟨j,0,U⟩) (s.l.length-1) a)):=fun b d B=>by
    have f:=B.j x (fun e=>q.2 e.symm);have H:=(bH.1 x).1;have L:=c.size;obtain⟨N,v⟩:=gY.q (S:=aB S w) f (A y) (n:=s.l.length-1) (d.a (fun k _ e=>by
     rcases e with e | e
     . exact⟨A e.1,e.2⟩
     . exact⟨R (by omega),by omega⟩)) (by rw[List.length_eraseIdx_of_lt u])
    refine⟨am b g 0 _ _ _ f,aD b g 0 _ _ f,⟨by rw[p];rfl,by rw[p];exact N,?_⟩⟩;exact((al.d c).a (B.e (fun k e=>by subst e;exact q.1)) (fun _ e _=>e)).a (v.e (fun k e=>by subst e;exact y)) (fun _ e _=>e)
   have hw:IntKind.i64.wrap ((i:Int)+1)=(i:Int)+1:=iY (by omega) (by omega);have T:(i:Int)<s.l.length:=by omega
   generalize cR s id (vU s)=r at *;go_wp2_with fail;refine D.mono ?_;rintro e b ⟨rfl,d,kD⟩;obtain⟨c0',f0',hd⟩:=G b d kD;go_wp2;go_ret;exact hd
theorem An {w:X}{g cap m:Nat}{xs:List Value}(h:aG w 0 98 12 (M ⟨g,0,U⟩) cap (m+1) xs)(j:Nat)(b:j<12){u:Value}(a:xs[m*12+j]? = M u):w.cell? ⟨g,m*12+j,U⟩=M u∧w.frozen? ⟨g,m*12+j,U⟩=F :=
 ⟨(rG h (m*12+j) (by omega)).trans a,tM h _⟩
theorem RT {w c:X}{S:Nat->Prop}{d:List (az×cJ)}{x:az}{b:cJ}{l2:ae}{g cap m:Nat}{a:ai}{e f:Nat}{i:Obj}
 (own:aG w 0 98 12 (M ⟨g,0,U⟩) cap (m+1) (cB (d++[(x,b)]))) (j:S g)
 (ahead:∀p∈d,eI w (fun k=>(S k∧k≠g)∧ez x b≠M k) p.1 p.2)
 (bytes:bM w (fun k=>S k∧k≠g) 5 b.a b.b x.a) (n:d.length=m)
 (o:al (fun k=>ct x.a b.a=M k) (w.alloc i).drew c) (q:bM c (fun k=>ct x.a b.a=M k∨(w.alloc i).drew.heap.size<=k) 5 a e (x.a++l2)) (r:f=(x.a++l2).length) :
 gE (c.setCells g (m*12) [I J 2,V ⟨#[]⟩,V ⟨#[]⟩,I J 0,Z U 0 0,I J 0,Z a f e,V ⟨#[]⟩,V ⟨#[]⟩,V ⟨#[]⟩,Z U 0 0,I J 0]) (aB S w) 98 5 (M ⟨g,0,U⟩) cap (d.map (·.1)++[dW (x.a++l2)])∧al S w (c.setCells g (m*12) [I J 2,V ⟨#[]⟩,V ⟨#[]⟩,I J 0,Z U 0 0,I J 0,Z a f e,V ⟨#[]⟩,V ⟨#[]⟩,V ⟨#[]⟩,Z U 0 0,I J 0]):=by
 subst n;subst r;have l:Below w.heap.size w (w.alloc i).drew:=((aq _ w).alloc (ak _) _).trans (bA _ _);refine gE.y own j ahead bytes (q.e (fun k _ h=>?_)) ((al.d l).a o (fun _ h _=>h));rcases h with h | h
 . exact A h
 . exact R (ce l.size h)
theorem RU (w:X)(S:Nat->Prop)(ao:ai)(cap m:Nat)(q:List az)(x:az)(e:az)(s:cJ)(h:gE w S 98 5 ao cap (q++[x]))(hE:ay w s.a s.b e.a)(hm:q.length=m)(hl:m<=1000000)(hk:e.b=2)(hx:x.b=2)(hz:x.a.length+e.a.length<=140737488355328):
 Calls prog 136 #[Z ao (m+1) cap,.agg #[I J e.b,V e.i,V e.j,I J e.m,Z s.e e.e.length s.f,I J e.l,Z s.a e.a.length s.b,V e.g,V e.f,V e.h,Z s.d e.c.length s.c,I J e.k]] w fun v w'=>v=Y (Z ao (m+1) cap)∧gE w' (aB S w) 98 5 ao cap (q++[dW (x.a++e.a)])∧al S w w':=by
 have k2:=cM.2 hk;obtain⟨qs,f,g,rfl,rfl,own,p,i,_,_,bytes⟩:=h.q rfl;have n:qs.length=m:=by simpa using hm
 rw[n] at own;have hcap:=own.a.1;have D:Below w.heap.size w (w.alloc (K #[I J e.b,V e.i,V e.j,I J e.m,Z s.e e.e.length s.f,I J e.l,Z s.a e.a.length s.b,V e.g,V e.f,V e.h,Z s.d e.c.length s.c,I J e.k] 98)):=(aq _ w).alloc (ak _) _;have l:∀k,ct x.a f.a=M k->S k∧k≠g:=fun k h=>by
  unfold ct at h;split at h
  . cases h
  . rcases bytes with ⟨_,_,T⟩ | ⟨h1,_⟩
    . cases W:f.a with
      | none=>rw[W] at h;cases h
      | some a=>rw[W] at h;injection h with h;subst h;exact T a W
    . contradiction
 have G:∀j,j<12->(cB (qs++[(x,f)]))[m*12+j]? = (x.d f)[j]?:=fun j r=>by
  rw[rP _ m (by simp[n]) j r];simp[<-n]
 have H:=own.r D;have c0:(w.alloc (K #[I J e.b,V e.i,V e.j,I J e.m,Z s.e e.e.length s.f,I J e.l,Z s.a e.a.length s.b,V e.g,V e.f,V e.h,Z s.d e.c.length s.c,I J e.k] 98)).cell? ⟨g,m*12+0,U⟩=M (I J 2):=(An H 0 (by omega) ((G 0 (by omega)).trans (by show M (Value.int J x.b)=_;rw[hx]))).1;have c6:(w.alloc (K #[I J e.b,V e.i,V e.j,I J e.m,Z s.e e.e.length s.f,I J e.l,Z s.a e.a.length s.b,V e.g,V e.f,V e.h,Z s.d e.c.length s.c,I J e.k] 98)).cell? ⟨g,m*12+6,U⟩=M (Z f.a x.a.length f.b):=(An H 6 (by omega) (G 6 (by omega))).1;rw[lC] at c0;have HB:bM (w.alloc (K #[I J e.b,V e.i,V e.j,I J e.m,Z s.e e.e.length s.f,I J e.l,Z s.a e.a.length s.b,V e.g,V e.f,V e.h,Z s.d e.c.length s.c,I J e.k] 98)).drew (fun k=>S k∧k≠g) 5 f.a f.b x.a:=(bytes.a (al.d (S:=fun _=>False) (D.trans (bA _ _))) (fun _ _ e=>e));have HN:ay (w.alloc (K #[I J e.b,V e.i,V e.j,I J e.m,Z s.e e.e.length s.f,I J e.l,Z s.a e.a.length s.b,V e.g,V e.f,V e.h,Z s.d e.c.length s.c,I J e.k] 98)).drew s.a s.b e.a:=hE.a (D.trans (bA _ _));have c:∀L:X,al (fun k=>ct x.a f.a=M k) (w.alloc (K #[I J e.b,V e.i,V e.j,I J e.m,Z s.e e.e.length s.f,I J e.l,Z s.a e.a.length s.b,V e.g,V e.f,V e.h,Z s.d e.c.length s.c,I J e.k] 98)).drew L->∀j,j<12->∃u,L.cell? ⟨g,m*12+j,U⟩=M u∧L.frozen? ⟨g,m*12+j,U⟩=F:=fun L hT j r=>by
  have h1:=(H.r (bA _ _)).e hT (fun a ha hb2=>by injection ha with ha;subst ha;exact(l _ hb2).2 rfl);have h2:=G j r;have T:(x.d f)[j]? = M ((x.d f)[j]'(by show j<12;exact r)):=gU _;have h4:=An h1 j r (h2.trans T);exact⟨_,h4.1,h4.2⟩
 have N:=And.intro own (And.intro p (And.intro i bytes));obtain⟨i0,t,y,z,B⟩:=info_parts il;have Hi:=t;have kT:=aa y;have kL:=aa z;have kU:=aa B
 have m0:(0:Int)<=(m:Int):=by omega
 have m1:(m:Int)<(m:Int)+1:=by omega
 have m2:((m+1:Nat):Int)-1=(m:Int):=by omega
 clear t y z B h hk hx own H p i bytes l G D  hm  hE;go_enter func136,ntmps136;go_wp2;go_region_law
  ((refine Cn (by rfl) _ _ _ (by rfl) 5 i0 underlying31 Hi kT.o kL.o kU.o (by rfl) (by rfl) HB rfl HN rfl hz ?_;intro bo3 iq d C b;have sG:=aa C;have HT3:=aa b;obtain⟨v0,d0,f0⟩:=c d b 0 (by decide);obtain⟨v1,d1,f1⟩:=c d b 1 (by decide);obtain⟨v2,d2,f2⟩:=c d b 2 (by decide);obtain⟨v3,d3,f3⟩:=c d b 3 (by decide);obtain⟨v4,d4,f4⟩:=c d b 4 (by decide);obtain⟨v5,d5,f5⟩:=c d b 5 (by decide);obtain⟨v6,d6,f6⟩:=c d b 6 (by decide);obtain⟨v7,d7,f7⟩:=c d b 7 (by decide);obtain⟨v8,d8,f8⟩:=c d b 8 (by decide);obtain⟨v9,d9,f9⟩:=c d b 9 (by decide);obtain⟨v10,d10,f10⟩:=c d b 10 (by decide);obtain⟨v11,d11,f11⟩:=c d b 11 (by decide);rw[lC] at d0 f0;clear C b))
 all_goals (go_wp2;go_ret;refine⟨rfl,?_⟩;exact RT N.1 N.2.1 N.2.2.1 N.2.2.2 n HT3.o sG.o (by rw[aF]))
inductive IE (w:X)(S N:Nat->Prop)(es:List az)(e:az)(v:Ending)(w':X):Prop
 | mk (ao:ai) (cap n:Nat) (hv:v=Y (Z ao n cap)) (hn:n=(iN es e).length) (hO:gE w' (fun k=>S k∨N k∨w.heap.size<=k) 98 5 ao cap (iN es e)) (hT:al S w w')
theorem Jv {w:X}{S:Nat->Prop}{a tb:Nat}{ao:ai}{cap:Nat}{es:List az}(h:gE w S a tb ao cap es)(b:es=[]):ao=U∧cap=0:=by
 cases h with
 | bare=>exact⟨rfl,rfl⟩
 | laid q e s g cap own=>simp at b
theorem Tn (w:X)(S N:Nat->Prop)(ao:ai)(cap n:Nat)(es:List az)(e:az)(s:cJ)(h:gE w S 98 5 ao cap es)(g:pN w S N e s)(c:es.length=n)(z:n<=1000000)(r:(ui es).length+e.a.length<=140737488355328):
 Calls prog 136 #[Z ao n cap,.agg #[I J e.b,V e.i,V e.j,I J e.m,Z s.e e.e.length s.f,I J e.l,Z s.a e.a.length s.b,V e.g,V e.f,V e.h,Z s.d e.c.length s.c,I J e.k]] w fun v w'=>IE w S N es e v w':=by
 by_cases i:e.b=2∧jF es=true
 . obtain⟨q,x,rfl,t⟩:=yV i.2;rw[Co] at r;obtain⟨m,rfl⟩:∃m,n=m+1:=⟨q.length,by rw[<-c];simp⟩;refine(RU w S ao cap m q x e s h g.a.f (by simpa using c) (by omega) i.1 t r).mono ?_;rintro v w' ⟨rfl,j,l⟩;have d:=uc q x e t i.1;refine .mk ao cap (m+1) rfl (by rw[d];simp at c ⊢;omega) ?_ l;rw[d];refine j.d (fun k _ b=>?_);rcases b with b | b
   . exact A b
   . exact R (R b)
 . have u:e.b=2->jF es=F:=fun k=>by
    cases B:jF es
    . rfl
    . exact absurd ⟨k,B⟩ i
   have d:=rK es e u;have fin:∀{v w'},wS w S N es e v w'->IE w S N es e v w':=by
    rintro v w' ⟨C,f,D,j,l⟩;exact .mk C f _ D (by rw[d];simp) (by rw[d];exact j) l
   by_cases b:e.b=2
   . rcases mQ es with a | ⟨q,x,a⟩
     . subst a;subst c;obtain⟨rfl,rfl⟩:=Jv h rfl;exact(RR w S N e s g b).mono (fun v w' k=>fin k)
     . rw[lA] at a;obtain⟨m,rfl⟩:∃m,n=m+1:=⟨q.length,by rw[<-c,a];simp⟩;refine(P3 w S N ao cap m es e s h g c (by omega) b (fun y o k=>?_)).mono (fun v w' k=>fin k);have p:=u b;rw[a,wN] at p;rw[a,tH] at o;simp at o;rw[o] at p;exact of_decide_eq_false p k
   . subst c;exact(RQ w S N ao cap es e s h g z b).mono (fun v w' k=>fin k)
abbrev iM (w:X)(S:Nat->Prop)(ao:ai)(cap:Nat)(es:List aS):Prop:=gE w S 98 5 ao cap (es.map aS.d)
inductive vq (w:X)(S N:Nat->Prop)(es:List aS)(e:aS)(v:Ending)(w':X):Prop
 | mk (ao:ai) (cap n:Nat) (hv:v=Y (Z ao n cap)) (hn:n=(aH (es++[e])).length) (hO:iM w' (fun k=>S k∨N k∨w.heap.size<=k) ao cap (aH (es++[e]))) (hT:al S w w')
theorem zl (w:World)(S N:Nat->Prop)(ao:ai)(cap n:Nat)(es:List aS)(e:aS)(s:cJ)(h:iM w S ao cap es)(hE:pN w S N e.d s)(hn:es.length=n)(hl:n<=100000)(hj:eZ es)(_hf:eL es)(hb:∀a,e=.body a->a≠[]∧a.length<=100000)(hz:bT es<=100000):
 Calls prog 136 #[.slice ao n cap,.agg #[.int .i64 e.d.b,.string e.d.i,.string e.d.j,.int .i64 e.d.m,.slice s.e e.d.e.length s.f,.int .i64 e.d.l,.slice s.a e.d.a.length s.b,.string e.d.g,.string e.d.f,.string e.d.h,.slice s.d e.d.c.length s.c,.int .i64 e.d.k]] w fun v w'=>vq w S N es e v w':=by
 have hm:(es.map aS.d).length=n:=by rw[ij];exact hn
 have hs1:(ui (es.map aS.d)).length<=100000:=by
  have:=LV (es.map aS.d);rw[uU] at this;omega
 have hs2:e.d.a.length<=100000:=by
  cases e with
  | body a=>exact(hb a rfl).2
  | head _=>exact ax _
  | fin=>exact ax _
  | fail _=>exact ax _
 refine(Tn w S N ao cap n (es.map aS.d) e.d s h hE hm (by omega) (by omega)).mono ?_;rintro v w' ⟨gQ,cap',n',hv,hn',hO,hT⟩;rw[UA hj] at hn' hO;exact .mk gQ cap' n' hv (by rw[hn',ij]) hO hT
theorem AY (w:X)(S:Nat->Prop)(ao:ai)(cap n:Nat)(es:List aS)(h:iM w S ao cap es)(b:es.length=n)(c:n<=100000)(d:eZ es)(f:eL es)(g:bT es<=100000):
 Calls prog 136 #[Z ao n cap,.agg #[I J 3,V ⟨#[]⟩,V ⟨#[]⟩,I J 0,Z U 0 0,I J 0,Z U 0 0,V ⟨#[]⟩,V ⟨#[]⟩,V ⟨#[]⟩,Z U 0 0,I J 0]] w fun v w'=>vq w S (fun _=>False) es .fin v w' :=
 zl w S (fun _=>False) ao cap n es .fin ⟨U,0,U,0,U,0⟩ h ⟨jz.a _ _,dO.e _ _,bM.d _ _ _,fun _ _ e=>e⟩ b c d f (fun a e=>by cases e) g
theorem To (w:X)(S:Nat->Prop)(ao:ai)(cap n c:Nat)(es:List aS)(h:iM w S ao cap es)(b:es.length=n)(d:n<=100000)(f:eZ es)(g:eL es)(i:bT es<=100000):
 Calls prog 136 #[Z ao n cap,.agg #[I J 4,V ⟨#[]⟩,V ⟨#[]⟩,I J 0,Z U 0 0,I J 0,Z U 0 0,V ⟨#[]⟩,V ⟨#[]⟩,V ⟨#[]⟩,Z U 0 0,I J (c:Int)]] w fun v w'=>vq w S (fun _=>False) es (.fail c) v w' :=
 zl w S (fun _=>False) ao cap n es (.fail c) ⟨U,0,U,0,U,0⟩ h ⟨jz.a _ _,dO.e _ _,bM.d _ _ _,fun _ _ e=>e⟩ b d f g (fun a e=>by cases e) i
theorem Ao (w:X)(S N:Nat->Prop)(ao bo:ai)(cap n c m:Nat)(b:ae)(es:List aS)(h:iM w S ao cap es)(f:bM w N 5 bo c b)(g:b≠[])(i:b.length=m)(d:m<=100000)(j:∀k,S k->¬N k)(l:es.length=n)(o:n<=100000)(p:eZ es)(q:eL es)(r:bT es<=100000):
 Calls prog 136 #[Z ao n cap,.agg #[I J 2,V ⟨#[]⟩,V ⟨#[]⟩,I J 0,Z U 0 0,I J 0,Z bo m c,V ⟨#[]⟩,V ⟨#[]⟩,V ⟨#[]⟩,Z U 0 0,I J 0]] w fun v w'=>vq w S N es (.body b) v w':=by
 subst i;exact zl w S N ao cap n es (.body b) ⟨U,0,bo,c,U,0⟩ h ⟨jz.a _ _,dO.e _ _,f,j⟩ l o p q (fun a e=>by injection e with e;subst e;exact⟨g,d⟩) r
theorem Tp (w:X)(S N:Nat->Prop)(ao fo:ai)(cap n b m:Nat)(hd:cf)(es:List aS)(h:iM w S ao cap es)(f:jz w N fo b m (aI (bL hd.a)))(g:hd.a.length=m)(i:∀k,S k->¬N k)(j:es.length=n)(l:n<=100000)(o:eZ es)(p:eL es)(q:bT es<=100000):
 Calls prog 136 #[Z ao n cap,.agg #[I J 1,V ⟨hd.c.toArray⟩,V ⟨hd.b.toArray⟩,I J (hd.e:Int),Z fo m b,I J hd.d,Z U 0 0,V ⟨#[]⟩,V ⟨#[]⟩,V ⟨#[]⟩,Z U 0 0,I J 0]] w fun v w'=>vq w S N es (.head hd) v w':=by
 have c:(bL hd.a).length=m:=by rw[om];exact g
 subst c;exact zl w S N ao cap n es (.head hd) ⟨fo,b,U,0,U,0⟩ h ⟨f.e (fun k _ e=>⟨e,by simp[ez,aS.d]⟩),dO.e _ _,bM.d _ _ _,i⟩ j l o p (fun a e=>by cases e) q
theorem P4 (w:X)(S:Nat->Prop)(g:Nat)(s:dz)(c:UInt8)(h:jC w S g s)(i:kb s)(a:s.a=0)(b:s.b=1):
 Calls prog 383 #[Q (M ⟨g,0,U⟩),I .u8 c.toNat] w fun e w'=>e=Y (.tuple #[Z (M ⟨w.heap.size,0,U⟩) 1 1,.bool F,I J 0])∧jC w' S g (df s c)∧bC w' 0 5 (M ⟨w.heap.size,0,U⟩) 1 [c]∧al S w w':=by
 have j:=kN.2 ⟨a,by omega⟩;obtain⟨y,nx,lf,z,B,C,r,l⟩:=h;obtain⟨rfl,rfl,rfl,rfl,rfl⟩:=l j;rw[j] at r;have k:=i.a b;have q:=i.b;have d:ke s=s.c:=by unfold ke;rw[if_pos b]
 rw[d] at r;have f:ip s=1:=by unfold ip;rw[if_neg (by omega),if_neg (by omega)]
 rw[f] at r;have D:=r.a 5 (by decide);have G:=r.a 2 (by decide);have H:=r.e 2;have L:decide ((s.c:Int) > 0)=true:=aV (by omega);have t:=r.y ((s.c:Int)-1);have u:=r.d 2 (I J ((s.c:Int)-1));have m:df s c={ s with c:=s.c-1,b:=if s.c<=1 then 2 else 1 }:=by unfold df;rw[if_neg (fun e=>e a),if_neg (by omega),if_pos b]
 have N:Hid (iQ s c=[c]):=by unfold Hid iQ;rw[if_pos ⟨a,b⟩]
 have T:Hid (jr s c=F):=by
  unfold Hid jr;rw[cz,m];intro e;have:(if s.c<=1 then 2 else 1)=4:=e.2.2.2;split at this <;> omega
 have v:=a;have x:=aa k
 clear r l  i j d f a b k;go_enter func383,ntmps383;go_wp2;go_ret3
 have n:Below (w.setCell ⟨g,2,U⟩ (I J ((s.c:Int)-1))).heap.size (w.setCell ⟨g,2,U⟩ (I J ((s.c:Int)-1))) ((w.setCell ⟨g,2,U⟩ (I J ((s.c:Int)-1))).alloc (K #[I .u8 (c.toNat:Int)] 5)):=(aq _ _).alloc (ak _) _;have a:=v;have k:=x.o;have p:(w.setCell ⟨g,2,U⟩ (I J ((s.c:Int)-1))).heap.size=w.heap.size:=by simp
 refine⟨by rw[<-p];rfl,jC.d m (t.f n) ?_ (fun _=>⟨rfl,?_,?_,rfl,rfl⟩),?_,u.a (al.d n) (fun _ e _=>e)⟩
 . rw[kN (s:={ s with c:=s.c-1,b:=if s.c<=1 then 2 else 1 }) |>.2 ⟨a,by show(if s.c<=1 then 2 else 1)≠4;split <;> omega⟩]
 . unfold ip;simp only;split <;> rfl
 . unfold ke;simp only;split
   . rw[if_neg (by omega)];omega
   . rw[if_pos rfl];omega
 . rw[<-p];exact tN _ _ 1 (ax _) (by decide) rfl
theorem Tq (w:X)(g:Nat)(o t bd:Value)(u:Bool)(a b c d f:Value)(p:cn w g o t u bd 0):
 (((((((((w.alloc (K #[V ⟨#[]⟩,V ⟨#[]⟩,I J 0,Z U 0 0,I J 0] 82)).alloc (K #[a,b,c,d,f] 82)).setCell ⟨g,1,U⟩ (Q U)).setCell ⟨g,2,U⟩ (.bool F)).setCell ⟨w.heap.size,0,U⟩ a).setCell ⟨w.heap.size,1,U⟩ b).setCell ⟨w.heap.size,2,U⟩ c).setCell ⟨w.heap.size,3,U⟩ d).setCell ⟨w.heap.size,4,U⟩ f).heap[w.heap.size]? = M (K #[a,b,c,d,f] 82 (0,0))∧cn (((((((((w.alloc (K #[V ⟨#[]⟩,V ⟨#[]⟩,I J 0,Z U 0 0,I J 0] 82)).alloc (K #[a,b,c,d,f] 82)).setCell ⟨g,1,U⟩ (Q U)).setCell ⟨g,2,U⟩ (.bool F)).setCell ⟨w.heap.size,0,U⟩ a).setCell ⟨w.heap.size,1,U⟩ b).setCell ⟨w.heap.size,2,U⟩ c).setCell ⟨w.heap.size,3,U⟩ d).setCell ⟨w.heap.size,4,U⟩ f) g o (Q U) F bd 0∧al (fun k=>k=g) w (((((((((w.alloc (K #[V ⟨#[]⟩,V ⟨#[]⟩,I J 0,Z U 0 0,I J 0] 82)).alloc (K #[a,b,c,d,f] 82)).setCell ⟨g,1,U⟩ (Q U)).setCell ⟨g,2,U⟩ (.bool F)).setCell ⟨w.heap.size,0,U⟩ a).setCell ⟨w.heap.size,1,U⟩ b).setCell ⟨w.heap.size,2,U⟩ c).setCell ⟨w.heap.size,3,U⟩ d).setCell ⟨w.heap.size,4,U⟩ f):=by
 have x:=p.q;have q:Below w.heap.size w ((w.alloc (K #[V ⟨#[]⟩,V ⟨#[]⟩,I J 0,Z U 0 0,I J 0] 82)).alloc (K #[a,b,c,d,f] 82)):=((aq _ _).alloc (ak _) _).alloc (by simp) _;have l:((w.alloc (K #[V ⟨#[]⟩,V ⟨#[]⟩,I J 0,Z U 0 0,I J 0] 82)).alloc (K #[a,b,c,d,f] 82)).heap[w.heap.size]? = M (K #[V ⟨#[]⟩,V ⟨#[]⟩,I J 0,Z U 0 0,I J 0] 82 (0,0)):=by
  rw[(qv _ _ U).block _ (by simp) (by simp),bw]
 have m:=((p.a q).E (Q U)).G F;have n:=(qx (((w.alloc (K #[V ⟨#[]⟩,V ⟨#[]⟩,I J 0,Z U 0 0,I J 0] 82)).alloc (K #[a,b,c,d,f] 82)).setCell ⟨g,1,U⟩ (Q U)) ⟨g,2,U⟩ w.heap.size (.bool F) (by show w.heap.size≠g;omega)).trans ((qx ((w.alloc (K #[V ⟨#[]⟩,V ⟨#[]⟩,I J 0,Z U 0 0,I J 0] 82)).alloc (K #[a,b,c,d,f] 82)) ⟨g,1,U⟩ w.heap.size (Q U) (by show w.heap.size≠g;omega)).trans l);have y:=aQ _ _ 0 _ _ a n;have z:=aQ _ _ 1 _ _ b y;have B:=aQ _ _ 2 _ _ c z;have C:=aQ _ _ 3 _ _ d B;have D:=aQ _ _ 4 _ _ f C;have i:∀(W:X) (j:Nat) (v:Value),al (fun k=>k=w.heap.size) W (W.setCell ⟨w.heap.size,j,U⟩ v):=fun W j v=>al.f _ W _ _ rfl;have r:=(i ((((w.alloc (K #[V ⟨#[]⟩,V ⟨#[]⟩,I J 0,Z U 0 0,I J 0] 82)).alloc (K #[a,b,c,d,f] 82)).setCell ⟨g,1,U⟩ (Q U)).setCell ⟨g,2,U⟩ (.bool F)) 0 a).a ((i _ 1 b).a ((i _ 2 c).a ((i _ 3 d).a (i _ 4 f) (fun _ e _=>e)) (fun _ e _=>e)) (fun _ e _=>e)) (fun _ e _=>e);refine⟨D,m.d r (by omega),?_⟩;have s:∀(W:X) (j:Nat) (v:Value),al (fun k=>k=g) W (W.setCell ⟨g,j,U⟩ v):=fun W j v=>al.f _ W _ _ rfl;refine(al.d (S:=fun k=>k=g) q).a (((s _ 1 _).a (s _ 2 _) (fun _ e _=>e)).e (S':=fun k=>k=g∨k=w.heap.size) (fun k e=>A e) |>.a (r.e (fun k e=>R e)) (fun _ e _=>e)) (fun k e G=>?_);rcases e with e | e
 . exact e
 . omega
theorem Tr (w:X)(g f:Nat)(s bd:Value)(S:Nat->Prop)(h:cf)(i:cn w g s (Q (M ⟨f,0,U⟩)) true bd 0)(D:gw w S f h)(y:¬S g):
 Calls prog 135 #[Q (M ⟨g,0,U⟩)] w fun e w'=>∃fo gG,e=Y (.agg #[V ⟨h.c.toArray⟩,V ⟨h.b.toArray⟩,I J (h.e:Int),Z fo h.a.length gG,I J h.d])∧cn w' g s (Q U) F bd 0∧jz w' S fo gG h.a.length (aI (bL h.a))∧al (fun k=>k=g) w w':=by
 obtain⟨fo,gG,t,z,G,B⟩:=D;have C:jz w S fo gG h.a.length (aI (bL h.a)):=⟨z.a,fun _ a e=>B a e⟩;have H:=C;have L:=aa y
 have c:Below w.heap.size w (w.alloc (K #[V ⟨#[]⟩,V ⟨#[]⟩,I J 0,Z U 0 0,I J 0] 82)):=(aq _ _).alloc (ak _) _;have b:=(c.block f (bH.1 t).1).trans t;have c1:=(i.a c).f;have r0:=am _ f 0 _ _ _ b;have r1:=am _ f 1 _ _ _ b;have r2:=am _ f 2 _ _ _ b;have r3:=am _ f 3 _ _ _ b;have r4:=am _ f 4 _ _ _ b;have u:=i.q;have n1:g≠w.heap.size:=by omega
 have n2:g≠w.heap.size+1:=by omega
 clear b t z G B C y u;generalize (⟨h.c.toArray⟩:ag)=l at *;generalize (⟨h.b.toArray⟩:ag)=m at *;generalize h.a.length=n at *;generalize h.d=p at *;have d:Below w.heap.size w ((w.alloc (K #[V ⟨#[]⟩,V ⟨#[]⟩,I J 0,Z U 0 0,I J 0] 82)).alloc (K #[V l,V m,I J (h.e:Int),Z fo n gG,I J p] 82)):=c.trans ((aq _ _).alloc c.size _);have p1:=(i.a d).f;have p2:=(i.a d).r;have N:=(i.a d).e 1;have T:=(i.a d).e 2;go_enter func135,ntmps135;go_wp2;obtain⟨j,x,r⟩:=Tq w g s _ bd _ (V l) (V m) (I J (h.e:Int)) (Z fo n gG) (I J p) i;revert j x r;generalize (((((((((w.alloc (K #[V ⟨#[]⟩,V ⟨#[]⟩,I J 0,Z U 0 0,I J 0] 82)).alloc (K #[V l,V m,I J (h.e:Int),Z fo n gG,I J p] 82)).setCell ⟨g,1,U⟩ (Q U)).setCell ⟨g,2,U⟩ (.bool F)).setCell ⟨w.heap.size,0,U⟩ (V l)).setCell ⟨w.heap.size,1,U⟩ (V m)).setCell ⟨w.heap.size,2,U⟩ (I J (h.e:Int))).setCell ⟨w.heap.size,3,U⟩ (Z fo n gG)).setCell ⟨w.heap.size,4,U⟩ (I J p))=q;intro j x r;have W:=am q w.heap.size 0 _ _ _ j;have z1:=am q w.heap.size 1 _ _ _ j;have z2:=am q w.heap.size 2 _ _ _ j;have z3:=am q w.heap.size 3 _ _ _ j;have z4:=am q w.heap.size 4 _ _ _ j;refine aR (v:=.agg #[V l,V m,I J (h.e:Int),Z fo n gG,I J p]) (by simp[results,results135,go_sem,W,z1,z2,z3,z4]) rfl ⟨fo,gG,rfl,x,?_,r⟩;exact H.d r (fun k hk e=>L.o (e▸hk))
theorem cn.jK {w:X}{g:Nat}{b d bd:Value}{f:Bool}{code:Int}(h:cn w g b d f bd code)(c:Int):
 cn (((((w.setCell ⟨g,0,U⟩ (Q U)).setCell ⟨g,1,U⟩ (Q U)).setCell ⟨g,2,U⟩ (.bool F)).setCell ⟨g,3,U⟩ .nilIface).setCell ⟨g,4,U⟩ (I J c)) g (Q U) (Q U) F .nilIface c ∧
 al (fun k=>k=g) w (((((w.setCell ⟨g,0,U⟩ (Q U)).setCell ⟨g,1,U⟩ (Q U)).setCell ⟨g,2,U⟩ (.bool F)).setCell ⟨g,3,U⟩ .nilIface).setCell ⟨g,4,U⟩ (I J c)):=by
 have a:∀(W:X) (j:Nat) (v:Value),al (fun k=>k=g) W (W.setCell ⟨g,j,U⟩ v):=fun W j v=>al.f _ W _ _ rfl;exact⟨((((h.jN _).E _).G _).y _).ku _,(a _ 0 _).a ((a _ 1 _).a ((a _ 2 _).a ((a _ 3 _).a (a _ 4 _) (fun _ e _=>e)) (fun _ e _=>e)) (fun _ e _=>e)) (fun _ e _=>e)⟩
inductive TX (w:X)(g:Nat)(So:Nat->Prop)(es:List aS)(c:Nat)(e:Ending)(w':X):Prop
 | mk (ao:ai) (cap n:Nat) (he:e=Y (Z ao n cap)) (hn:n=(aH (es++[.fail c])).length) (hO:iM w' (aB So w) ao cap (aH (es++[.fail c]))) (hP:cn w' g (Q U) (Q U) F .nilIface (c:Int)) (hT:al (fun k=>So k∨k=g) w w')
theorem Ap (w:X)(g:Nat)(q r bd:Value)(s:Bool)(code:Int)(So:Nat->Prop)(ao:ai)(cap n c:Nat)(es:List aS)(a:cn w g q r s bd code)(h:iM w So ao cap es)(l:¬So g)(t:es.length=n)(u:n<=100000)(v:eZ es)(x:eL es)(y:bT es<=100000):
 Calls prog 134 #[Q (M ⟨g,0,U⟩),Z ao n cap,I J (c:Int)] w fun e w'=>TX w g So es c e w':=by
 obtain⟨z,m⟩:=a.jK (c:Int);have i:=aa z;have j:=aa m
 have B:=aa l;have S:=a.B;have T:=a.f;have W:=a.r;have c3:=a.j;have c4:=a.jD
 have f0:=a.e 0;have f1:=a.e 1;have f2:=a.e 2;have f3:=a.e 3;have f4:=a.e 4
 go_enter func134,ntmps134;go_wp2_with fail;refine(To _ So ao cap n c es (h.a m (fun k C e=>l (e▸C))) t u v x y).mono ?_;rintro e w1 ⟨D,G,H,rfl,b,p,d⟩;have L:=aa b;have N:=aa p;have f:=aa d
 clear b p d;go_wp2;go_ret;refine .mk D G H rfl L.o (N.o.d (fun k _ e=>?_)) (i.o.d f.o B.o) ?_
 . rcases e with e | e | e
   . exact A e
   . exact e.elim
   . exact R (by simpa using e)
 . exact(j.o.e (fun k e=>R e)).a (f.o.e (fun k e=>A e)) (fun _ e _=>e)
theorem M5 {w:X}{a left:Nat}{v:Value}{c:UInt8}(d:a<w.heap.size)(f:(w.setCell ⟨a,0,U⟩ v).heap[a]? = M (K #[I J (left:Int)] 243 (0,0))):
 ((w.setCell ⟨a,0,U⟩ v).alloc (K #[I .u8 (c.toNat:Int)] 5)).drew.heap[a]? = M (K #[I J (left:Int)] 243 (0,0))∧bC ((w.setCell ⟨a,0,U⟩ v).alloc (K #[I .u8 (c.toNat:Int)] 5)).drew 0 5 (M ⟨w.heap.size,0,U⟩) 1 [c]∧al (fun k=>k=a) w ((w.setCell ⟨a,0,U⟩ v).alloc (K #[I .u8 (c.toNat:Int)] 5)).drew:=by
 have g:(w.setCell ⟨a,0,U⟩ v).heap.size=w.heap.size:=by simp
 have b:Below (w.setCell ⟨a,0,U⟩ v).heap.size (w.setCell ⟨a,0,U⟩ v) ((w.setCell ⟨a,0,U⟩ v).alloc (K #[I .u8 (c.toNat:Int)] 5)).drew:=((aq _ _).alloc (ak _) _).trans ⟨rfl,rfl,rfl,ak _,fun _ _=>rfl⟩;refine⟨(b.block a (by omega)).trans f,?_,(al.f (fun k=>k=a) w _ _ rfl).a (al.d b) (fun _ e _=>e)⟩;have i:bC ((w.setCell ⟨a,0,U⟩ v).alloc (K #[I .u8 (c.toNat:Int)] 5)) 0 5 (M ⟨w.heap.size,0,U⟩) 1 [c]:=by
  rw[<-g];exact tN _ _ 1 (ax _) (by decide) rfl
 exact i.B (bA _ _)
theorem MW (w:X)(a left:Nat)(c:UInt8)(g:w.heap[a]? = M (K #[I J (left:Int)] 243 (0,0)))(j:0<left)(l:left<=4000):
 Calls prog 388 #[Q (M ⟨a,0,U⟩),I .u8 c.toNat] w fun e w'=>e=Y (.tuple #[Z (M ⟨w.heap.size,0,U⟩) 1 1,.bool (decide (left<=1)),I J 0])∧w'.heap[a]? = M (K #[I J ((left-1:Nat):Int)] 243 (0,0))∧bC w' 0 5 (M ⟨w.heap.size,0,U⟩) 1 [c]∧al (fun k=>k=a) w w':=by
 have b:=(bH.1 g).1;have m:=am w a 0 _ _ _ g;have n:=aD w a 0 _ _ g;have o:((left:Int)-1==0)=decide (left<=1):=by rw[ik,cM,bS];omega
 have d:=aQ w a 0 _ _ (I J ((left:Int)-1)) g;have f:(w.setCell ⟨a,0,U⟩ (I J ((left:Int)-1))).heap[a]? = M (K #[I J ((left-1:Nat):Int)] 243 (0,0)):=by
  rw[d];have:((left-1:Nat):Int)=(left:Int)-1:=by omega
  rw[this];rfl
 have i:=am _ a 0 _ _ _ d;have q:((w.setCell ⟨a,0,U⟩ (I J ((left:Int)-1))).alloc (K #[I .u8 (c.toNat:Int)] 5)).cell? ⟨a,0,U⟩=M (I J ((left:Int)-1)):=by
  rw[((aq _ _).alloc (ak _) _).cell (p:=⟨a,0,U⟩) (by simpa using b)];exact i
 generalize decide (left<=1)=r at *;go_enter func388,ntmps388;go_wp2;go_region
 all_goals (go_wp2;go_ret3;exact⟨rfl,M5 b f⟩)
theorem Mo (w:X)(k:Nat)(a:0<k):
 Calls prog 137 #[I J (k:Int)] w fun e w'=>e=Y (.iface 241 (Q (M ⟨w.heap.size,0,U⟩)))∧w'.heap[w.heap.size]? = M (K #[I J (k:Int)] 243 (0,0))∧Below w.heap.size w w':=by
 have b:((k:Int)==-1)=F:=aO.2 (by omega);go_enter func137,ntmps137;go_wp2;go_ret;exact⟨rfl,bw w _,(aq _ _).alloc (ak _) _⟩
theorem LH (w:X):
 Calls prog 137 #[I J (-1)] w fun e w'=>∃g,e=Y (.iface 239 (Q (M ⟨g,0,U⟩)))∧jC w' (fun k=>w.heap.size<=k) g sv∧Below w.heap.size w w':=by
 go_enter func137,ntmps137;go_wp2_with fail;refine(KL w).mono ?_;rintro e f ⟨g,rfl,a,b⟩;have c:=aa a;have d:=aa b
 clear a b;go_wp2;go_ret;exact⟨g,rfl,c.o,d.o⟩
inductive oJ (w:X)(S So:Nat->Prop)(g:Nat)(s:bR)(c:UInt8)(es:List aS)(e:Ending)(w':X):Prop
 | mk (ao:ai) (cap n:Nat) (S' So':Nat->Prop) (he:e=Y (Z ao n cap)) (hn:n=(aH (es++(cK s c).2)).length) (hR:dT w' S' g (cK s c).1) (hO:iM w' So' ao cap (aH (es++(cK s c).2)))
  (hd:∀k,S' k->¬So' k) (hS:∀k,S' k->S k∨w.heap.size<=k) (hSo:∀k,So' k->S k∨So k∨w.heap.size<=k) (hT:al (fun k=>S k∨So k) w w')
theorem IA {es:List aS}{e:aS}{n m:Nat}(f:es.length=n)(g:m=(aH (es++[e])).length)(b:∀a,e=.body a->a≠[]∧a.length<=1)(d:eL es):
 m<=n+1∧bT (aH (es++[e]))<=bT es+1∧eL (aH (es++[e]))∧eZ (aH (es++[e])):=by
 have c:=sX (es++[e]);rw[aF] at c;refine⟨by simp at c;omega,?_,te _ (Gu d (fun a ha=>?_)),rg _⟩
 . rw[sZ,rh];cases e with
   | body a=>have:=(b a rfl).2;simp only[bT];omega
   | head _=>simp[bT]
   | fin=>simp[bT]
   | fail _=>simp[bT]
 . simp at ha;exact(b a ha.symm).1
theorem CG {w a b:X}{c B C:Nat->Prop}{d:Nat}{l:cw}(h:cQ w C d l)(e:al c w a)(f:al B a b)(g:∀k,C k->¬c k)(i:∀k,C k->¬B k):cQ b C d l:=(h.d e g).d f i
theorem KR (w:X)(S So:Nat->Prop)(g:Nat)(s:bR)(c:UInt8)(ao:ai)(cap n:Nat)(es:List aS)(h:dT w S g s)(hG:fX s)(hp:s.a=2)(hO:iM w So ao cap es)(hd:∀k,S k->¬So k)(q:es.length=n)(W:n<=90000)(x:eZ es)(r:eL es)(T:bT es<=90000):
 Calls prog 82 #[Q (M ⟨g,0,U⟩),Z ao n cap,I .u8 c.toNat] w fun e w'=>oJ w S So g s c es e w':=by
 obtain⟨l,lp,hpp,bd,code,m,hI⟩:=h;cases hI with
 | dead c hc h4=>omega
 | Le gl h0 L=>omega
 | O0 gl gh D h1 L H=>omega
 | at3 gl p D h3 L B=>omega
 | at2 gl p h2 L i B =>
   obtain⟨l0,l1⟩:=hG.g hp;have c3:=m.j;have hgb:p<w.heap.size:=(bH.1 B).1;have Bl:=m.q;have HC:=aa (MW w p s.e c B l0 l1);have hm:∀w,(method 498 241 (Q (M ⟨p,0,U⟩)) "Feed").run prog w=.ok (388,Q (M ⟨p,0,U⟩)) w:=fun _=>by kernel_rfl
   have HX:Hid (dT w S g s∧cn w g (Q (M ⟨gl,0,U⟩)) (Q U) F (.iface 241 (Q (M ⟨p,0,U⟩))) 0∧cQ w (fun k=>((S k∧k≠g)∧k≠p)∧k<w.heap.size) gl s.b∧(S p∧p≠g)∧(∀k,S k->¬So k)∧S g) :=
    ⟨⟨l,_,_,_,_,m,.at2 gl p h2 L i B⟩,m,L.a (fun k hk e=>⟨e,hk⟩),i,hd,l⟩
   have XU:=aa (hO.d (S':=fun k=>So k∧k<w.heap.size) (fun k hk e=>⟨e,hk⟩));have HE:=aa (And.intro q (And.intro W (And.intro x (And.intro r T))));have HLl:=aa (And.intro l0 l1);have adU:s.a≠4:=by omega
   have HN:Hid (cK s c=if s.e<=1 then ({ s with a:=0,e:=0 },[.body [c],.fin]) else ({ s with e:=s.e-1 },[.body [c]])):=by
    unfold Hid cK;rw[if_neg adU,if_pos hp]
   clear hG x r T hO hd L i B m l q l0 l1 adU h2;by_cases t:s.e<=1
   . rw[aV t] at HC;have HV:=aa t;clear t;go_enter func82,ntmps82;go_wp2_with (go_at_call 388;refine HC.o.mono ?_;rintro e w1 ⟨rfl,y,uw,z⟩;have HB1:=aa y;have Ed:=aa uw;have d:=aa z;clear y uw z)
     obtain⟨q,W,x,r,T⟩:=HE.o;obtain⟨_,m,hL,i,hd,l⟩:=HX.o;have f:bM w1 (fun k=>k=w.heap.size) 5 (M ⟨w.heap.size,0,U⟩) 1 [c]:=A ⟨by simp,Ed.o,fun a e=>by injection e with e;subst e;rfl⟩;have C:=XU.o.a d.o (fun k e b=>hd p i.1 (b▸e.1));refine(Ao w1 (fun k=>So k∧k<w.heap.size) (fun k=>k=w.heap.size) ao _ cap n 1 1 [c] es C f (by simp) rfl (by omega) (fun k e b=>by omega) q (by omega) x r (by omega)).mono ?_;rintro e w2 ⟨jB,G,n2,rfl,u,N,kD⟩;have hadd:=IA q u (fun a e=>by injection e with e;subst e;exact⟨by simp,by simp⟩) r;have v:cn w2 g _ _ _ _ _:=(m.d d.o (fun e=>i.2 e.symm)).d kD (fun e=>hd g l e.1);have p3:=v.j;have pf3:=v.e 3;have tQ:=aa v;have FD:=aa N;have j:=aa kD;have HAd:=aa hadd;have Zh:=aa u
     clear q W x r T m hL i hd l f C u N kD hadd v c3;go_wp2_with fail;obtain⟨q,W,x,r,T⟩:=HE.o;obtain⟨_,m,hL,i,hd,l⟩:=HX.o;obtain⟨a1,a2,a3,a4⟩:=HAd.o;have hs1:=d.o.b;have hs2:=j.o.b;have zL:=al.f (fun k=>k=g) w2 ⟨g,3,U⟩ .nilIface rfl;have hE3:=FD.o.a zL (fun k e b=>by
      subst b;rcases e with e | e | e
      . exact hd k l e.1
      . omega
      . omega)
     refine(AY _ _ jB G n2 _ hE3 Zh.o.symm (by omega) a4 a3 (by omega)).mono ?_;rintro e w4 ⟨tK,cap4,n4,rfl,O8,hO4,yA⟩;have HN4:=aa O8;have Tg:=aa hO4;have Y7:=aa yA
     clear q W x r T m hL i hd l zL hE3 O8 hO4 yA a1 a2 a3 a4 hs1 hs2;go_wp2;go_ret;obtain⟨q,W,x,r,T⟩:=HE.o;obtain⟨_,m,hL,i,hd,l⟩:=HX.o;have hs1:=d.o.b;have hs2:=j.o.b;have hz3:(w2.setCell ⟨g,3,U⟩ .nilIface).heap.size=w2.heap.size:=by simp
     have hN:=HN.o;rw[if_pos HV.o] at hN;have hj2:aH (aH (es++[.body [c]])++[.fin])=aH (es++(cK s c).2):=by rw[hN];exact GH es [.body [c]] [.fin]
     have zL:=al.f (fun k=>k=g) w2 ⟨g,3,U⟩ .nilIface rfl;have hP4:=(tQ.o.y .nilIface).d Y7.o (fun e=>by
      rcases e with e | e | e
      . exact hd g l e.1
      . omega
      . omega)
     have hL4:=((CG hL d.o j.o (fun k e=>e.1.2) (fun k e b=>hd k e.1.1.1 b.1)).d zL (fun k e=>e.1.1.2)).d Y7.o (fun k e b=>by
      rcases b with b | b | b
      . exact hd k e.1.1.1 b.1
      . have:=e.2;omega
      . have:=e.2;omega)
     refine .mk tK cap4 n4 (fun k=>S k∧k<w.heap.size) _ rfl (by rw[<-hj2];exact HN4.o) ?_ (by rw[<-hj2];exact Tg.o) ?_ (fun k e=>A e.1) ?_ ?_
     . rw[hN];exact⟨⟨l,Bl⟩,_,_,_,_,hP4,.Le gl rfl (hL4.a (fun k _ e=>⟨⟨e.1.1.1,e.2⟩,e.1.1.2⟩))⟩
     . intro k e b;rcases b with (b | b | b) | b | b
       . exact hd k e.1 b.1
       . omega
       . omega
       . exact b
       . omega
     . intro k e;rcases e with (e | e | e) | e | e
       . exact R (A e.1)
       . exact R (R (by omega))
       . exact R (R (by omega))
       . exact e.elim
       . exact R (R (by omega))
     . refine(d.o.e (fun k e=>by rw[e];exact A i.1)).a ((j.o.e (S':=fun k=>(S k∨So k)∨w.heap.size<=k) (fun k e=>A (R e.1))).a ((zL.e (fun k e=>by rw[e];exact A (A l))).a (Y7.o.e (fun k e=>?_)) (fun _ e _=>e)) (fun _ e _=>e)) (fun k e hk=>?_)
       . rcases e with e | e | e
         . exact A (R e.1)
         . exact R (by omega)
         . exact R (by omega)
       . rcases e with e | e
         . exact e
         . omega
   . rw[aW t] at HC;have HV:=aa t;clear t;go_enter func82,ntmps82;go_wp2_with (go_at_call 388;refine HC.o.mono ?_;rintro e w1 ⟨rfl,y,uw,z⟩;have HB1:=aa y;have Ed:=aa uw;have d:=aa z;clear y uw z)
     obtain⟨q,W,x,r,T⟩:=HE.o;obtain⟨_,m,hL,i,hd,l⟩:=HX.o;have f:bM w1 (fun k=>k=w.heap.size) 5 (M ⟨w.heap.size,0,U⟩) 1 [c]:=A ⟨by simp,Ed.o,fun a e=>by injection e with e;subst e;rfl⟩;have C:=XU.o.a d.o (fun k e b=>hd p i.1 (b▸e.1));refine(Ao w1 (fun k=>So k∧k<w.heap.size) (fun k=>k=w.heap.size) ao _ cap n 1 1 [c] es C f (by simp) rfl (by omega) (fun k e b=>by omega) q (by omega) x r (by omega)).mono ?_;rintro e w2 ⟨jB,G,n2,rfl,u,N,kD⟩;have FD:=aa N;have j:=aa kD;have Zh:=aa u
     clear q W x r T m hL i hd l f C u N kD c3;go_wp2;go_ret;obtain⟨q,W,x,r,T⟩:=HE.o;obtain⟨_,m,hL,i,hd,l⟩:=HX.o;have hs1:=d.o.b;have hN:=HN.o;rw[if_neg HV.o] at hN;have v:=(m.d d.o (fun e=>i.2 e.symm)).d j.o (fun e=>hd g l e.1);have hB2:=j.o.j HB1.o (fun e=>hd p i.1 e.1);have hL2:=CG hL d.o j.o (fun k e=>e.1.2) (fun k e b=>hd k e.1.1.1 b.1);refine .mk jB G n2 (fun k=>S k∧k<w.heap.size) _ rfl (by rw[hN];exact Zh.o) ?_ (by rw[hN];exact FD.o) ?_ (fun k e=>A e.1) ?_ ?_
     . rw[hN];exact⟨⟨l,Bl⟩,_,_,_,_,v,.at2 gl p hp (hL2.a (fun k _ e=>⟨⟨⟨e.1.1.1,e.2⟩,e.1.1.2⟩,e.1.2⟩)) ⟨⟨i.1,hgb⟩,i.2⟩ hB2⟩
     . intro k e b;rcases b with b | b | b
       . exact hd k e.1 b.1
       . omega
       . omega
     . intro k e;rcases e with e | e | e
       . exact R (A e.1)
       . exact R (R (by omega))
       . exact R (R (by omega))
     . exact(d.o.e (fun k e=>by rw[e];exact A i.1)).a (j.o.e (fun k e=>R e.1)) (fun _ e _=>e)
theorem LI (w:X)(S So:Nat->Prop)(g:Nat)(s:bR)(c:UInt8)(ao:ai)(cap n:Nat)(es:List aS)(h:dT w S g s)(hG:fX s)(hp:s.a=3)(l:s.d.b=1)(hO:iM w So ao cap es)(hd:∀k,S k->¬So k)(q:es.length=n)(hl:n<=90000)(r:eZ es)(t:eL es)(x:bT es<=90000):
 Calls prog 82 #[Q (M ⟨g,0,U⟩),Z ao n cap,I .u8 c.toNat] w fun e w'=>oJ w S So g s c es e w':=by
 obtain⟨m,lp,hpp,bd,code,j,hI⟩:=h;cases hI with
 | dead c hc h4=>omega
 | Le u h0 L=>omega
 | O0 u gh D h1 L H=>omega
 | at2 u v h2 L hb B=>omega
 | at3 u v D h3 L B =>
   obtain⟨kg,y,k4⟩:=hG.c hp;have c3:=j.j;have Bl:=j.q;have HC:=aa (P4 w (fun k=>((S k∧k≠g)∧D k)∧k<w.heap.size) v s.d c (B.a (fun k z e=>⟨e,z⟩)) kg y l);have hm:∀w,(method 498 239 (Q (M ⟨v,0,U⟩)) "Feed").run prog w=.ok (383,Q (M ⟨v,0,U⟩)) w:=fun _=>by kernel_rfl
   have p:df s.d c={ s.d with c:=s.d.c-1,b:=if s.d.c<=1 then 2 else 1 }:=by unfold df;rw[if_neg (fun e=>e y),if_neg (by omega),if_pos l]
   have HN:Hid (cK s c=({ s with d:=df s.d c },[.body [c]])):=by
    unfold Hid cK;rw[if_neg (by omega),if_neg (by omega),if_pos hp,if_neg (by rw[p];exact fun e=>e y),if_neg (by rw[p];show ¬(if s.d.c<=1 then 2 else 1)=4;split <;> omega)];have ho:iQ s.d c=[c]:=by unfold iQ;rw[if_pos ⟨y,l⟩]
    rw[ho];unfold eu;rw[if_neg (by simp)]
   have HX:Hid (cn w g (Q (M ⟨u,0,U⟩)) (Q U) F (.iface 239 (Q (M ⟨v,0,U⟩))) 0∧cQ w (fun k=>((S k∧k≠g)∧¬D k)∧k<w.heap.size) u s.b∧(∀k,S k->¬So k)∧S g) :=
    ⟨j,L.a (fun k z e=>⟨e,z⟩),hd,m⟩
   have XU:=aa (hO.d (S':=fun k=>So k∧k<w.heap.size) (fun k z e=>⟨e,z⟩));have HE:=aa (And.intro q (And.intro hl (And.intro r (And.intro t x))));clear hG r t x hO hd L B j m q kg y k4 p h3;go_enter func82,ntmps82;go_wp2_with (go_at_call 383;refine HC.o.mono ?_;rintro e w1 ⟨rfl,C,uw,G⟩;have HB1:=aa C;have Ed:=aa uw;have d:=aa G;clear C uw G)
   obtain⟨q,hl,r,t,x⟩:=HE.o;obtain⟨j,hL,hd,m⟩:=HX.o;have f:bM w1 (fun k=>k=w.heap.size) 5 (M ⟨w.heap.size,0,U⟩) 1 [c]:=A ⟨by simp,Ed.o,fun a e=>by injection e with e;subst e;rfl⟩;have N:=XU.o.a d.o (fun k e b=>hd k b.1.1.1 e.1);refine(Ao w1 (fun k=>So k∧k<w.heap.size) (fun k=>k=w.heap.size) ao _ cap n 1 1 [c] es N f (by simp) rfl (by omega) (fun k e b=>by omega) q (by omega) r t (by omega)).mono ?_;rintro e w2 ⟨jB,T,n2,rfl,W,hO2,kD⟩;have FD:=aa hO2;have i:=aa kD;have Zh:=aa W
   clear q hl r t x j hL hd m f N W hO2 kD c3;go_wp2;go_ret;obtain⟨q,hl,r,t,x⟩:=HE.o;obtain⟨j,hL,hd,m⟩:=HX.o;have hs1:=d.o.b;have hN:=HN.o;have hP2:=(j.d d.o (fun e=>e.1.1.2 rfl)).d i.o (fun e=>hd g m e.1);have hL2:=CG hL d.o i.o (fun k e b=>e.1.2 b.1.2) (fun k e b=>hd k e.1.1.1 b.1);have hB2:=(HB1.o.e i.o (fun k e b=>hd k e.1.1.1 b.1));refine .mk jB T n2 (fun k=>S k∧k<w.heap.size) _ rfl (by rw[hN];exact Zh.o) ?_ (by rw[hN];exact FD.o) ?_ (fun k e=>A e.1) ?_ ?_
   . rw[hN];exact⟨⟨m,Bl⟩,_,_,_,_,hP2,.at3 u v D hp (hL2.a (fun k _ e=>⟨⟨⟨e.1.1.1,e.2⟩,e.1.1.2⟩,e.1.2⟩)) (hB2.a (fun k _ e=>⟨⟨⟨e.1.1.1,e.2⟩,e.1.1.2⟩,e.1.2⟩))⟩
   . intro k e b;rcases b with b | b | b
     . exact hd k e.1 b.1
     . omega
     . omega
   . intro k e;rcases e with e | e | e
     . exact R (A e.1)
     . exact R (R (by omega))
     . exact R (R (by omega))
   . exact(d.o.e (fun k e=>A e.1.1.1)).a (i.o.e (fun k e=>R e.1)) (fun _ e _=>e)
theorem LJ (w:X)(S So:Nat->Prop)(g:Nat)(s:bR)(c:UInt8)(ao:ai)(cap n:Nat)(es:List aS)(h:dT w S g s)(hG:fX s)(hp:s.a=3)(hk1:s.d.b≠1)(hO:iM w So ao cap es)(hd:∀k,S k->¬So k)(m:es.length=n)(T:n<=90000)(p:eZ es)(t:eL es)(z:bT es<=90000):
 Calls prog 82 #[Q (M ⟨g,0,U⟩),Z ao n cap,I .u8 c.toNat] w fun e w'=>oJ w S So g s c es e w':=by
 obtain⟨i,lp,hpp,bd,code,j,hI⟩:=h;cases hI with
 | dead c hc C=>omega
 | Le G h0 L=>omega
 | O0 G gh D h1 L H=>omega
 | at2 G x h2 L hb B=>omega
 | at3 G x D h3 L B =>
   obtain⟨kg,k0,k4⟩:=hG.c hp;have c3:=j.j;have Bl:=j.q;have hC:=KH w (fun k=>((S k∧k≠g)∧D k)∧k<w.heap.size) x s.d c (B.a (fun k hk e=>⟨e,hk⟩)) kg;have ho:iQ s.d c=[]:=by unfold iQ;rw[if_neg (fun e=>hk1 e.2)]
   have hov:jr s.d c=decide ((df s.d c).a=0∧(df s.d c).b=4):=by unfold jr;rw[decide_eq_decide];exact⟨fun e=>⟨e.2.2.1,e.2.2.2⟩,fun e=>⟨k0,k4,e.1,e.2⟩⟩
   have hC2:Calls prog 383 #[Q (M ⟨x,0,U⟩),I .u8 c.toNat] w fun e w'=>∃W bc,e=Y (.tuple #[Z W 0 bc,.bool (decide ((df s.d c).a=0∧(df s.d c).b=4)),I J ((df s.d c).a:Int)])∧jC w' (aB (fun k=>((S k∧k≠g)∧D k)∧k<w.heap.size) w) x (df s.d c)∧al (fun k=>((S k∧k≠g)∧D k)∧k<w.heap.size) w w':=by
    refine hC.mono ?_;rintro e w' ⟨W,bc,he,_,hC',hT'⟩;refine⟨W,bc,?_,hC',hT'⟩;rw[he,ho,hov];rfl
   have hm:∀w,(method 498 239 (Q (M ⟨x,0,U⟩)) "Feed").run prog w=.ok (383,Q (M ⟨x,0,U⟩)) w:=fun _=>by kernel_rfl
   have q:cK s c=if (df s.d c).a≠0 then (ld s,[.fail (df s.d c).a]) else if (df s.d c).b=4 then ({ s with a:=0 },[.fin]) else ({ s with d:=df s.d c },[]):=by
    unfold cK;rw[if_neg (by omega),if_neg (by omega),if_pos hp,ho];rfl
   have HX:Hid (cn w g (Q (M ⟨G,0,U⟩)) (Q U) F (.iface 239 (Q (M ⟨x,0,U⟩))) 0∧cQ w (fun k=>((S k∧k≠g)∧¬D k)∧k<w.heap.size) G s.b∧(∀k,S k->¬So k)∧S g) :=
    ⟨j,L.a (fun k hk e=>⟨e,hk⟩),hd,i⟩
   have XU:=aa (hO.d (S':=fun k=>So k∧k<w.heap.size) (fun k hk e=>⟨e,hk⟩));have HE:=aa (And.intro m (And.intro T (And.intro p (And.intro t z))));have HC:=aa hC2;clear hG p t z hO hd L B j i m kg k0 k4 h3 hC hC2 ho hov hk1;generalize df s.d c=u at *;by_cases d:u.a=0
   . rw[if_neg (fun e=>e d)] at q;by_cases C:u.b=4
     . rw[if_pos C] at q;rw[aV ⟨d,C⟩,d] at HC;have r:=aa q;clear q d C;go_enter func82,ntmps82;go_wp2_with (go_at_call 383;refine HC.o.mono ?_;rintro e N ⟨W,bc,rfl,l,f⟩;have v:=HX.o.1.d f (fun e=>e.1.1.2 rfl);have p3:=v.j;have pf3:=v.e 3;have HP1:=aa v;have b:=aa f;clear l f v)
       obtain⟨m,T,p,t,z⟩:=HE.o;obtain⟨j,y,hd,i⟩:=HX.o;have zL:=al.f (fun k=>k=g) N ⟨g,3,U⟩ .nilIface rfl;have hE1:=(XU.o.a b.o (fun k e a=>hd k a.1.1.1 e.1)).a zL (fun k e a=>hd g i (a▸e.1));refine(AY _ _ ao cap n _ hE1 m (by omega) p t (by omega)).mono ?_;rintro e w4 ⟨tK,cap4,n4,rfl,O8,hO4,yA⟩;have HN4:=aa O8;have Tg:=aa hO4;have Y7:=aa yA
       clear m T p t z j y hd i zL hE1 O8 hO4 yA;go_wp2;go_ret;obtain⟨j,y,hd,i⟩:=HX.o;have hs1:=b.o.b;have hz3:(N.setCell ⟨g,3,U⟩ .nilIface).heap.size=N.heap.size:=by simp
       have zL:=al.f (fun k=>k=g) N ⟨g,3,U⟩ .nilIface rfl;have hP4:=(HP1.o.y .nilIface).d Y7.o (fun e=>hd g i e.1);have hL4:=((y.d b.o (fun k e a=>e.1.2 a.1.2)).d zL (fun k e=>e.1.1.2)).d Y7.o (fun k e a=>hd k e.1.1.1 a.1);refine .mk tK cap4 n4 (fun k=>S k∧k<w.heap.size) _ rfl (by rw[r.o];exact HN4.o) ?_ (by rw[r.o];exact Tg.o) ?_ (fun k e=>A e.1) ?_ ?_
       . rw[r.o];exact⟨⟨i,Bl⟩,_,_,_,_,hP4,.Le G rfl (hL4.a (fun k _ e=>⟨⟨e.1.1.1,e.2⟩,e.1.1.2⟩))⟩
       . intro k e a;rcases a with a | a | a
         . exact hd k e.1 a.1
         . exact a
         . omega
       . intro k e;rcases e with e | e | e
         . exact R (A e.1)
         . exact e.elim
         . exact R (R (by omega))
       . exact(b.o.e (fun k e=>A e.1.1.1)).a ((zL.e (fun k e=>by rw[e];exact A i)).a (Y7.o.e (fun k e=>R e.1)) (fun _ e _=>e)) (fun _ e _=>e)
     . rw[if_neg C] at q;rw[aW (fun e=>C e.2),d] at HC;have r:=aa q;clear q d C;go_enter func82,ntmps82;go_wp2_with (go_at_call 383;refine HC.o.mono ?_;rintro e N ⟨W,bc,rfl,l,f⟩;have HB1:=aa l;have b:=aa f;clear l f)
       go_ret;obtain⟨m,T,p,t,z⟩:=HE.o;obtain⟨j,y,hd,i⟩:=HX.o;have hs1:=b.o.b;have hej:aH (es++(cK s c).2)=es:=by rw[r.o,eN];exact ol es p
       refine .mk ao cap n (fun k=>(S k∧k<w.heap.size)∨w.heap.size<=k) (fun k=>So k∧k<w.heap.size) rfl (by rw[hej];exact m.symm) ?_ (by rw[hej];exact XU.o.a b.o (fun k e a=>hd k a.1.1.1 e.1)) ?_ ?_ (fun k e=>R (A e.1)) (b.o.e (fun k e=>A e.1.1.1))
       . rw[r.o];refine⟨A ⟨i,Bl⟩,_,_,_,_,j.d b.o (fun e=>e.1.1.2 rfl),.at3 G x (fun k=>D k∨w.heap.size<=k) hp ((y.d b.o (fun k e a=>e.1.2 a.1.2)).a (fun k _ e=>⟨⟨A ⟨e.1.1.1,e.2⟩,e.1.1.2⟩,fun a=>?_⟩)) (HB1.o.a (fun k _ e=>?_))⟩
         . rcases a with a | a
           . exact e.1.2 a
           . have:=e.2;omega
         . rcases e with e | e
           . exact⟨⟨A ⟨e.1.1.1,e.2⟩,e.1.1.2⟩,A e.1.2⟩
           . exact⟨⟨R e,by omega⟩,R e⟩
       . intro k e a;rcases e with e | e
         . exact hd k e.1 a.1
         . omega
       . intro k e;rcases e with e | e
         . exact A e.1
         . exact R e
   . rw[if_pos d] at q;rw[aW (fun e=>d e.1)] at HC;have r:=aa q;have tc:((u.a:Int) != 0)=true:=by rw[cW];omega
     have QG:=aa d;clear q d;generalize u.a=cc at *;go_enter func82,ntmps82;go_wp2_with (go_at_call 383;refine HC.o.mono ?_;rintro e N ⟨W,bc,rfl,l,f⟩;have b:=aa f;clear l f)
     obtain⟨m,T,p,t,z⟩:=HE.o;obtain⟨j,y,hd,i⟩:=HX.o;refine(Ap N g _ _ _ _ _ (fun k=>So k∧k<w.heap.size) ao cap n cc es (j.d b.o (fun e=>e.1.1.2 rfl)) (XU.o.a b.o (fun k e a=>hd k a.1.1.1 e.1)) (fun e=>hd g i e.1) m (by omega) p t (by omega)).mono ?_;rintro e w2 ⟨jB,cap2,n2,rfl,hn2,hO2,hP2,kD⟩;have Zh:=aa hn2;have FD:=aa hO2;have tQ:=aa hP2;have HT2:=aa kD
     clear m T p t z j y hd i hn2 hO2 hP2 kD;go_wp2;go_ret;obtain⟨j,y,hd,i⟩:=HX.o;have hs1:=b.o.b;refine .mk jB cap2 n2 (fun k=>k=g) _ rfl (by rw[r.o];exact Zh.o) ?_ (by rw[r.o];exact FD.o) ?_ (fun k e=>by rw[e];exact A i) ?_ ?_
     . rw[r.o];exact⟨rfl,_,_,_,_,tQ.o,.dead cc QG.o rfl⟩
     . intro k e a;subst e;rcases a with a | a
       . exact hd k i a.1
       . omega
     . intro k e;rcases e with e | e
       . exact R (A e.1)
       . exact R (R (by omega))
     . refine(b.o.e (fun k e=>A e.1.1.1)).a (HT2.o.e (fun k e=>?_)) (fun _ e _=>e);rcases e with e | e
       . exact R e.1
       . rw[e];exact A i
