import Derived.Test.YtodmelffkfbalaaGreatDoorPk33
import Derived.Deep.RegionHeld3
import Derived.Deep.RegionLaw
open Go.Value renaming int->I,slice->Z,pointer->Q
open Go.IntKind renaming i64->J
open Go.Obj renaming cells->K
open Go.Ending renaming returned->Y
open Option renaming none->U,some->M
open Go renaming World->X
set_option maxHeartbeats 2000000
set_option maxRecDepth 100000
open Go.Proofs.Tryz
namespace Go.Proofs.YtodmelffkfbalaaGreatDoor
open Go.RowKit
theorem bE.y {w:X}{S:Nat->Prop}{y g b i:Nat}{s:aA}(h:gI w S y 92 5 g s)(H:lc w g b s.l.length)(L:i<s.l.length):∃q:em,w.cell? ⟨b,i*5+3,U⟩=M (Z q.a s.l[i].b.length q.b)∧bK w (fun _=>True) 5 q.a q.b s.l[i].b ∧
 (∀c,am (fun k=>cw s.l[i].b q.a=M k) w c->c.cell? ⟨b,i*5+3,U⟩=M (Z q.a s.l[i].b.length q.b)∧c.frozen? ⟨b,i*5+3,U⟩=false) ∧
 ∀c j m bs n (r:aA×Nat),bK c (fun k=>cw s.l[i].b q.a=M k∨w.heap.size<=k) 5 j m bs->am (fun k=>cw s.l[i].b q.a=M k) w c->n=bs.length->r=(⟨s.l.set i { s.l[i] with b:=bs },s.a⟩,0)->bE S y w g r (Y (I J 0)) (c.setCell ⟨b,i*5+3,U⟩ (Z j n m)):=by
 obtain⟨ao,p,N,c1,f0,f1,z,T,W⟩:=h.j;obtain⟨B,XH,o⟩:=H;rw[N] at o;injection o with o;injection o with ha _ _;subst ha;obtain⟨g2,q,d,hS2,f,h0,h1,h2,C,h4,hf,t,hK⟩:=W.G i L;injection d with d;injection d with d;subst d;have u:cw s.l[i].b q.a≠M b:=fun e=>(t.r e).1.2 rfl;have hng:cw s.l[i].b q.a≠M g:=fun e=>(t.r e).1.1.2 rfl;refine⟨q,C,t.j (fun _ _ _=>trivial),fun c v=>?_,fun c j m bs n r hB v hn hr=>?_⟩
 . have D:=v.c b f u;exact⟨by rw[vw (a:=⟨b,i*5+3,U⟩) D];exact C,by rw[vx (a:=⟨b,i*5+3,U⟩) D];exact hf _⟩
 . subst hr;obtain⟨x,G⟩:=hK c j m bs n hB v hn;have hgl:=(bO.1 z).1;refine⟨rfl,⟨M ⟨b,0,U⟩,p,?_,Or.inl T,?_⟩,G.j (fun k e=>e.1)⟩
   . have:=G.y z (fun e=>e.2 rfl);simpa using this
   . refine x.a (fun k _ e=>?_);rcases e with e | e
     . exact⟨Or.inl e.1,e.2⟩
     . exact⟨Or.inr e,by omega⟩
theorem Nn (s:aA)(S:Nat->Prop)(g G i b1 H L:Nat)(f:Int)(N:ag)(m d:Nat)(b:ab)(w:X)(h:cD w S g s)(hp:lc w g G s.l.length)(hi:i<s.l.length)(ok:cN s)
 (d1:w.cell? ⟨b1,0,U⟩=M (I J f)) (d2:w.cell? ⟨H,0,U⟩=M (Z N d m)) (d3:w.cell? ⟨L,0,U⟩=M (Q (M ⟨g,0,U⟩))) (hb:aB w N m b) (v:b.length=d) (hN:d<=1000000) :
 Calls prog 293 #[Q (M ⟨G,i*5,U⟩),Q (M ⟨b1,0,U⟩),Q (M ⟨H,0,U⟩),Q (M ⟨L,0,U⟩)] w (bE S 141 w g (kj s f b i s.l[i])):=by
 obtain⟨q,h0,h1,h2,h3,h4,hf,hB⟩:=lc.a h hp hi;have hk:=ok.a _ (fb hi);have k0:=hk.c;have k1:=hk.d;have k2:=hk.a;have k3:=hk.i
 have hq:=ok.d;have mH:=ok.b
 by_cases hs:s.l[i].e=0
 . have e1:¬s.l[i].e≠0:=by simpa using hs
   rw[hs] at h4;by_cases T:f=s.l[i].b.length
   . have e2:¬f≠s.l[i].b.length:=by simpa using T
     have HM:=fun n=>RF G (i*5) s.l[i].a (w.drewN n) (by rw[World.cell?_drewN];exact h1);have HU:=fun W (y:Below w.heap.size w W)=>PC s S g W (h.a y) (by omega) (by omega);by_cases hl:(if s.l[i].a=-1 then 2000 else s.l[i].a)<(s.l[i].b.length:Int)+d
     . have z:∀W,Below w.heap.size w W->bE S 141 w g (kj s f b i s.l[i]) (Y (I J (4:Nat))) W:=fun W y=>bE.a h y (by
        unfold kj;rw[if_neg e1,if_neg e2,if_pos];rw[v];split at hl <;> omega)
       generalize s.l[i]=u at *;generalize (if u.a=-1 then 2000 else u.a)=mo at *;have hw1:IntKind.i64.wrap ((u.b.length:Int)+d)=(u.b.length:Int)+d:=ja (by omega) (by omega);subst T;go_enter func293,ntmps293;go_wp2;go_quiet (fail)
       go_wp2;go_quiet ((go_at_call 294;exact(HM _).mono (fun e j D=>⟨D.1,_,D.2⟩)))
       go_wp2;go_ret;exact z _ ⟨rfl,rfl,rfl,ak _,fun _ _=>rfl⟩
     . have e3:¬(2000<s.l[i].b.length+b.length∨(0<=s.l[i].a∧s.l[i].a<(s.l[i].b.length:Int)+b.length)):=by
        rw[v];split at hl <;> omega
       have HC:∀W,Below w.heap.size w W->W.cell? ⟨H,0,U⟩=M (Z N d m)∧W.cell? ⟨L,0,U⟩=M (Q (M ⟨g,0,U⟩)) :=fun W y=>⟨by rw[y.cell (p:=⟨H,0,U⟩) (bY w _ d2)];exact d2,by rw[y.cell (p:=⟨L,0,U⟩) (bY w _ d3)];exact d3⟩;have n3:¬((s.l[i].b.length:Int)+d > if s.l[i].a=-1 then 2000 else s.l[i].a):=by omega
       by_cases hu:6000<cF s.l+d
       . have z:∀W,Below w.heap.size w W->bE S 141 w g (kj s f b i s.l[i]) (Y (I J (16:Nat))) W:=fun W y=>bE.a h y (by
          unfold kj;rw[if_neg e1,if_neg e2,if_neg e3,if_pos (by rw[v];exact hu)])
         generalize s.l[i]=u at *;generalize (if u.a=-1 then 2000 else u.a)=mo at *;have hw1:IntKind.i64.wrap ((u.b.length:Int)+d)=(u.b.length:Int)+d:=ja (by omega) (by omega);have hw2:IntKind.i64.wrap ((cF s.l:Int)+d)=(cF s.l:Int)+d:=ja (by omega) (by omega);have tu:decide ((cF s.l:Int)+d > 6000)=true:=by rw[bR];omega
         generalize cF s.l=us at *;subst T;go_enter func293,ntmps293;go_wp2;go_quiet (fail)
         go_wp2;go_quiet ((go_at_call 294;exact(HM _).mono (fun e j D=>⟨D.1,_,D.2⟩)))
         go_wp2;go_region_held3 (fun w'=>w'.cell? ⟨H,0,U⟩=M (Z N d m)∧w'.cell? ⟨L,0,U⟩=M (Q (M ⟨g,0,U⟩))) (go_keep) (first | (go_at_call 295;refine(HU _ ?_).mono ?_;(exact⟨rfl,rfl,rfl,ak _,fun _ _=>rfl⟩);rintro e j ⟨rfl,t⟩;have a:Below w.heap.size w j:=au (sR w _) t;obtain⟨c2,c3⟩:=HC j a;have B:=aa a;clear t a))
         all_goals
          go_wp2;go_ret;exact z _ B.o
       . have z:Hid (∀j,Below w.heap.size w j->∃x:em,j.cell? ⟨G,i*5+3,U⟩=M (Z x.a s.l[i].b.length x.b)∧bK j.drew (fun _=>True) 5 x.a x.b s.l[i].b ∧
          (∀C,am (fun k=>cw s.l[i].b x.a=M k) j.drew C->C.cell? ⟨G,i*5+3,U⟩=M (Z x.a s.l[i].b.length x.b)∧C.frozen? ⟨G,i*5+3,U⟩=false) ∧
          ∀C oG ko,bK C (fun k=>cw s.l[i].b x.a=M k∨j.drew.heap.size<=k) 5 oG ko (s.l[i].b++b)->am (fun k=>cw s.l[i].b x.a=M k) j.drew C->bE S 141 w g (kj s f b i s.l[i]) (Y (I J 0)) (C.setCell ⟨G,i*5+3,U⟩ (Z oG (s.l[i].b.length+d) ko))):=fun j t=>by
          have a:=t.trans (bj _ _);obtain⟨x,g1,g2,g3,g4⟩:=bE.y (h.a a) (hp.j a) hi;refine⟨x,g1,g2,g3,fun C oG ko hB hT=>bE.j a (g4 C oG ko _ _ _ hB hT (by rw[aD,v]) ?_)⟩;unfold kj;rw[if_neg e1,if_neg e2,if_neg e3,if_neg (by rw[v];exact hu)]
         have HBS:=fun j (y:Below w.heap.size w j)=>aB.a (aB.a hb y) (bj _ j);obtain⟨i0,hi0,hz0,hz1,hz2⟩:=info_parts gG;have Hi:=hi0;have lg:=aa hz0;have kZ:=aa hz1;have lq:=aa hz2
         generalize s.l[i]=u at *;generalize (if u.a=-1 then 2000 else u.a)=mo at *;have hw1:IntKind.i64.wrap ((u.b.length:Int)+d)=(u.b.length:Int)+d:=ja (by omega) (by omega);have hw2:IntKind.i64.wrap ((cF s.l:Int)+d)=(cF s.l:Int)+d:=ja (by omega) (by omega);have tu:decide ((cF s.l:Int)+d > 6000)=false:=by rw[cC];omega
         generalize cF s.l=us at *;subst T;go_enter func293,ntmps293;go_wp2;go_quiet (fail)
         go_wp2;go_quiet ((go_at_call 294;exact(HM _).mono (fun e j D=>⟨D.1,_,D.2⟩)))
         go_wp2;go_region_held3 (fun w'=>w'.cell? ⟨H,0,U⟩=M (Z N d m)∧w'.cell? ⟨L,0,U⟩=M (Q (M ⟨g,0,U⟩))) (go_keep) (first | (go_at_call 295;refine(HU _ ?_).mono ?_;(exact⟨rfl,rfl,rfl,ak _,fun _ _=>rfl⟩);rintro e j ⟨rfl,t⟩;have a:Below w.heap.size w j:=au (sR w _) t;obtain⟨c2,c3⟩:=HC j a;have B:=aa a;clear t a))
         all_goals
          obtain⟨x,g1,g2,g3,g4⟩:=z.o j B.o;have HG:=g2;have HKp:=aa g3;have PL:=aa g4
          have HSr:=HBS j B.o;go_wp2;go_region_law ((refine Bz (by rfl) _ _ _ (by rfl) 5 i0 underlying31 Hi lg.o kZ.o lq.o (by rfl) (by rfl) HG rfl HSr v (by omega) ?_;intro bo3 iy w3 hO3 qj;have sP:=aa hO3;have HT3:=aa qj;obtain⟨v0,f0⟩:=HKp.o w3 qj;clear hO3 qj))
          all_goals
           go_wp2;go_ret;exact PL.o _ _ _ sP.o HT3.o
   . have z:∀n,bE S 141 w g (kj s f b i s.l[i]) (Y (I J (17:Nat))) (w.drewN n):=fun n=>bE.a (c:=17) (r:=kj s f b i s.l[i]) h (sR w n) (by unfold kj;rw[if_neg e1,if_pos T]);generalize s.l[i]=u at *;go_enter func293,ntmps293;go_wp2;go_quiet (fail)
     go_wp2;go_ret;exact z _
 . have z:bE S 141 w g (kj s f b i s.l[i]) (Y (I J (19:Nat))) w:=bE.a h (ar _ _) (by unfold kj;rw[if_pos hs]);generalize s.l[i]=u at *;go_enter func293,ntmps293;go_wp2;go_ret;exact z
theorem lP (w:X)(v:Value)(t k:Nat)(a:w.heap.size=k):(w.alloc (K #[v] t)).cell? ⟨k,0,U⟩=M v:=by subst a;exact World.cell?_alloc_mark w _ _ _ 0
theorem jN (w:X)(o:Obj)(k:Nat)(v:Value)(h:w.cell? ⟨k,0,U⟩=M v):(w.alloc o).cell? ⟨k,0,U⟩=M v:=by
 rw[((ar w.heap.size w).alloc (ak _) o).cell (p:=⟨k,0,U⟩) (bY w _ h)];exact h
theorem E3 (s:aA)(S:Nat->Prop)(g:Nat)(a:Int)(w:X)(h:cD w S g s)(ok:cN s):
 Calls prog 184 #[Q (M ⟨g,0,U⟩),I J a] w (bE S 141 w g (lD s a)):=by
 have b:=aa (Nj s S g a w h (by have:=ok.b;omega) (qC s) (fun d i f j _ k l=>M2 s S g f i d k l j));rw[<-Pc] at b;generalize lD s a=r at *;clear h ok;go_enter func184,ntmps184;go_wp2_with fail;refine b.o.mono ?_;intro e n c;have m:=aa c;obtain⟨rfl,_,_⟩:=c;go_wp2;go_ret;exact m.o
theorem DU (s:aA)(S:Nat->Prop)(g:Nat)(a:Int)(w:X)(h:cD w S g s)(ok:cN s):
 Calls prog 180 #[Q (M ⟨g,0,U⟩),I J a] w (bE S 141 w g (kh s a)):=by
 have b:=aa (Nk s S g a w h (by have:=ok.b;omega) (oM s) (fun d i f j _ k l=>M8 s S g f i d k l j));rw[<-O8] at b;generalize kh s a=r at *;clear h ok;go_enter func180,ntmps180;go_wp2_with fail;refine b.o.mono ?_;intro e n c;have m:=aa c;obtain⟨rfl,_,_⟩:=c;go_wp2;go_ret;exact m.o
theorem Ii (s:aA)(S:Nat->Prop)(g:Nat)(c a:Int)(w:X)(h:cD w S g s)(ok:cN s):
 Calls prog 250 #[Q (M ⟨g,0,U⟩),I J c,I J a] w (bE S 141 w g (lC s c a)):=by
 have d:Below w.heap.size w (w.alloc (K #[I J a] 3)):=(ar _ _).alloc (ak _) _;have f:=Nl s S g c (w.alloc (K #[I J a] 3)) (h.a d) (by have:=ok.b;omega) w.heap.size (ki s a) (fun m i n j o q t=>M9 s S g n i w.heap.size a m q t j (ok.a _ (fb j)).c (by rw[o.cell (p:=⟨w.heap.size,0,U⟩) (by simp)];exact World.cell?_alloc_mark w _ _ _ 0));rw[<-O5] at f;generalize lC s c a=r at *;have v:∀(k:Fn) (first b:Array Value) (w:X),(Instr.makeFunc k first b).run prog w=.ok (.func k first b) w:=fun _ _ _ _=>rfl;go_enter func250,ntmps250;go_wp2_with fail;refine f.mono ?_;intro e x l;have u:=bE.j d l;obtain⟨rfl,_,_⟩:=l;go_wp2;go_ret;exact u
theorem BY (s:aA)(S:Nat->Prop)(g:Nat)(d a:Int)(bo:ag)(n cap:Nat)(b:ab)(w:X)(h:cD w S g s)(ok:cN s)(u:aB w bo cap b)(v:b.length=n)(x:n<=1000000):
 Calls prog 249 #[Q (M ⟨g,0,U⟩),I J d,I J a,Z bo n cap] w (bE S 141 w g (iL s d a b)):=by
 have j:Below w.heap.size w (w.alloc (K #[Q (M ⟨g,0,U⟩)] 42)):=(ar _ _).alloc (ak _) _;have k:Below w.heap.size w (((w.alloc (K #[Q (M ⟨g,0,U⟩)] 42)).alloc (K #[I J a] 3)).alloc (K #[Z bo n cap] 31)):=(j.alloc (by simp) _).alloc (by simp;omega) _;have l:∀W,Below (((w.alloc (K #[Q (M ⟨g,0,U⟩)] 42)).alloc (K #[I J a] 3)).alloc (K #[Z bo n cap] 31)).heap.size (((w.alloc (K #[Q (M ⟨g,0,U⟩)] 42)).alloc (K #[I J a] 3)).alloc (K #[Z bo n cap] 31)) W->W.cell? ⟨w.heap.size+1,0,U⟩=M (I J a)∧W.cell? ⟨w.heap.size+2,0,U⟩=M (Z bo n cap)∧W.cell? ⟨w.heap.size,0,U⟩=M (Q (M ⟨g,0,U⟩)):=fun W m=>by
  refine⟨?_,?_,?_⟩
  . rw[m.cell (p:=⟨w.heap.size+1,0,U⟩) (by simp)];exact jN _ _ _ _ (lP _ _ _ _ (by simp))
  . rw[m.cell (p:=⟨w.heap.size+2,0,U⟩) (by simp)];exact lP _ _ _ _ (by simp)
  . rw[m.cell (p:=⟨w.heap.size,0,U⟩) (by simp;omega)];exact jN _ _ _ _ (jN _ _ _ _ (lP _ _ _ _ rfl))
 have o:=Nm s S g d _ (h.a k) (by have:=ok.b;omega) (w.heap.size+1) (w.heap.size+2) w.heap.size (kj s a b) (fun f i y z c B C=>Nn s S g y i (w.heap.size+1) (w.heap.size+2) w.heap.size a bo cap n b f B C z ok (l f c).1 (l f c).2.1 (l f c).2.2 ((u.a k).a c) v x);rw[<-Be] at o;generalize iL s d a b=r at *;have G:∀(q:Fn) (first cap:Array Value) (w:X),(Instr.makeFunc q first cap).run prog w=.ok (.func q first cap) w:=fun _ _ _ _=>rfl;go_enter func249,ntmps249;go_wp2_with fail;refine o.mono ?_;intro e H t;have D:=bE.j k t;obtain⟨rfl,_,_⟩:=t;go_wp2;go_ret;exact D
theorem Al:(prog.info? 92).map (fun i=>(i.zero,i.size,i.bytes))=M (M (.agg #[I J 0,I J 0,.string ⟨#[]⟩,Z U 0 0,I J 0]),5,64):=by kernel_rfl
theorem SS (w:X):(zeroValue 92).run prog w=.ok (.agg #[I J 0,I J 0,.string ⟨#[]⟩,Z U 0 0,I J 0]) w:=by kernel_rfl
def tD:List Value:=[I J 0,I J 0,.string ⟨#[]⟩,Z U 0 0,I J 0]
theorem My (S:Nat->Prop)(l:List aL)(b cap n i j:Nat)(w:X)(h:dN w S 92 5 (M ⟨b,0,U⟩) cap l)(hn:l.length=n)(hN:n<=1000)(hi:i<n)(hj:j=i+1):
 Calls prog 297 #[Z (M ⟨b,0,U⟩) n cap,I J i,I J j] w fun e w'=>e=Y (Z (M ⟨b,0,U⟩) (n-1) cap)∧dN w' (ay S w) 92 5 (M ⟨b,0,U⟩) cap (l.eraseIdx i)∧am (fun k=>k=b) w w':=by
 subst hn;obtain⟨m,RL,D,hK⟩:=h.jK i hi;have hcap:=h.f;obtain⟨i0,v,G,y,H⟩:=info_parts Al;have hmax:cap<=9223372036854775807:=by
  rcases D.2 with ⟨e,_⟩ | ⟨g',cap',cur,e,hg,hh,hn,B,hs,r⟩
  . simp at e
  . injection e with _ _ e;subst e;exact B
 have s:=D.B (bj _ _);have q:(dd m).length=l.length*5:=by rw[vL,RL]
 obtain⟨a,c⟩:∃a,a=(dd m).drop ((i+1)*5):=⟨_,rfl⟩;have p:a.length=(l.length-j)*5:=by rw[c,cO,q];omega
 obtain⟨C,hA,z⟩:∃C:Addr,(if cap=j then M (⟨b,0,U⟩:Addr) else M ⟨b,j*5,U⟩)=M C∧Hid (∀t u,a[t]? = M u->w.drew.cell? (C.add t)=M u):=by
  by_cases B:cap=j
  . refine⟨⟨b,0,U⟩,by simp[B],fun t u d=>?_⟩;have h0:a.length=0:=by rw[p];omega
    rw[xS.1 h0] at d;simp at d
  . refine⟨⟨b,j*5,U⟩,by simp[B],fun t u d=>?_⟩;have r:t<(l.length-j)*5:=by
     have:=(fe.1 d).1;rwa[p] at this
    rw[c,List.getElem?_drop] at d;rw[ge,qZ s (j*5+t) (by omega),<-d,hj]
 have s2:∀u∈a,u.oneCell'=true:=fun u d=>by
  rw[c] at d;have d:=List.mem_of_mem_drop d;obtain⟨x,_,hx⟩:=List.mem_flatMap.1 d;exact FK _ _ u hx
 have s3:Hid (∀t,t<a.length->(w.drew.cell? ⟨b,0+i*5+t,U⟩).isSome=true∧w.drew.frozen? ⟨b,0+i*5+t,U⟩=false):=fun t r=>by
  rw[p] at r;rw[qZ s (0+i*5+t) (by omega),iz (by omega)];exact⟨rfl,sK s _⟩
 obtain⟨g,f⟩:∃g,g=w.drew.setCells b (0+i*5) a:=⟨_,rfl⟩;have L:aK g 0 92 5 (M ⟨b,0,U⟩) cap l.length (pa (dd m) (0+i*5) a):=by rw[f];exact s.H a (0+i*5)
 have N:i+(l.length-j)=l.length-1:=by omega
 have hcl:∀T,(Builtin.clear_ #[40] T #[Z (M ⟨b,(i+(l.length-j))*5,U⟩) (l.length-(i+(l.length-j))) (cap-(i+(l.length-j)))]).run prog g=.ok (.tuple #[]) (g.setCells b ((i+(l.length-j))*5) tD):=fun T=>by
  rw[show l.length-(i+(l.length-j))=1 by omega];refine KL g _ _ T _ underlying40 SS (by decide) b ((i+(l.length-j))*5) _ (fun t r=>?_) (fun t r=>sK L _);have r:t<5:=r;rw[qZ L _ (by omega),iz (by rw[LZ];omega)];rfl
 have HE:Hid (dN (g.setCells b ((i+(l.length-j))*5) tD) (ay S w) 92 5 (M ⟨b,0,U⟩) cap (l.eraseIdx i)∧am (fun k=>k=b) w (g.setCells b ((i+(l.length-j))*5) tD)):=by
  have hT:am (fun k=>k=b) w (g.setCells b ((i+(l.length-j))*5) tD):=by
   rw[f];exact((am.f (bj _ w)).a (vz b a _ w.drew) (fun _ e _=>e)).a (vz b tD _ _) (fun _ e _=>e)
  have W:=s.jY i hi tD;refine⟨(hK _ (M ⟨b,0,U⟩) cap ?_ (hT.j (fun k e=>by subst e;rfl)) (fun k e=>Or.inl e)).1,hT⟩;rw[PB,f,c,N,ee];have e1:dd (m.take i)=(dd m).take (i*5):=by
   conv=>rhs;rw[<-iN i m,ym]
   rw[List.take_left' (by rw[vL,bU];omega)]
  have e2:dd (m.drop (i+1))=(dd m).drop ((i+1)*5):=by
   conv=>rhs;rw[<-iN (i+1) m,ym]
   rw[List.drop_left' (by rw[vL,bU];omega)]
  rw[e1,e2];exact W
 have HW:Hid (g=w.drew.setCells b (0+i*5) a):=f;have HQ:=aa N;have hic:i<=cap:=by omega
 have hjc:j<=cap:=by omega
 have hjl:j<=l.length:=by omega
 have hne:¬i=j:=by omega
 have hlt:i<j:=by omega
 have hnc:¬cap=i+(l.length-j):=by omega
 have Hi:=aa v;have kZ:=aa y
 clear f L s D hK h c  q RL v G y H hj N;generalize l.length=n at *;go_enter func297,ntmps297;go_wp2_with fail;go_region_law (refine step_append_room rfl (.tmp 22) (.tmp 25) 40 rfl 92 i0 5 underlying40 Hi.o kZ.o b 0 i cap (by simp[Act.eval,Act.put]) C (n-j) (cap-j) a (by simp[Act.eval,Act.put]) p z.out s2 (by omega) s3.out ?_;rw[<-HW.o])
 go_wp2;go_ret;exact⟨by rw[<-HQ.o];rfl,HE.o⟩
theorem Ed (s:aA)(S:Nat->Prop)(g:Nat)(c:Int)(w:X)(h:cD w S g s)(ok:cN s):
 Calls prog 251 #[Q (M ⟨g,0,U⟩),I J c] w (bE S 141 w g (mt s c)):=by
 have hN:=ok.b;rw[Pa];have u:=ri s S g c w h (by omega);cases o:cE s.l c with
 | none =>
   rw[qG o] at u;have D:∀W,Below w.heap.size w W->bE S 141 w g (cQ s c (uQ s)) (Y (I J (10:Nat))) W:=fun W d=>bE.a h d (qD o);go_enter func251,ntmps251;go_wp2_with fail;refine u.mono ?_;rintro e p ⟨rfl,d⟩;go_wp2;go_ret;exact D _ d
 | some i =>
   rw[qF o] at u;have v:=mu o;have q:cQ s c (uQ s)=(⟨s.l.eraseIdx i,s.a⟩,0):=qE o;go_enter func251,ntmps251;go_wp2_with fail;refine u.mono ?_;rintro e p ⟨rfl,d⟩;obtain⟨ao,a,c0,c1,f0,f1,y,z,B⟩:=(h.a d).j;obtain⟨m,rfl,t,_⟩:=B.r.a i v;have G:Calls prog 297 #[Z (M ⟨m,0,U⟩) s.l.length a,I J i,I J ((i:Int)+1)] p _:=My _ s.l m a s.l.length i (i+1) p B rfl (by omega) v rfl;have H:∀b,dN b (ay (fun k=>S k∧k≠g) p) 92 5 (M ⟨m,0,U⟩) a (s.l.eraseIdx i)->am (fun k=>k=m) p b->b.cell? ⟨g,0,U⟩=M (Z (M ⟨m,0,U⟩) s.l.length a)∧b.frozen? ⟨g,0,U⟩=false∧bE S 141 w g (cQ s c (uQ s)) (Y (I J 0)) (b.setCell ⟨g,0,U⟩ (Z (M ⟨m,0,U⟩) (s.l.length-1) a)):=fun b f C=>by
    have j:=C.y y (fun e=>t.2 e.symm);have L:=(bO.1 y).1;have N:=d.size;obtain⟨T,x⟩:=gI.B (S:=ay S w) j (Or.inl z) (n:=s.l.length-1) (f.a (fun k _ e=>by
     rcases e with e | e
     . exact⟨Or.inl e.1,e.2⟩
     . exact⟨Or.inr (by omega),by omega⟩)) (by rw[List.length_eraseIdx_of_lt v])
    refine⟨aq b g 0 _ _ _ j,aN b g 0 _ _ j,⟨by rw[q];rfl,by rw[q];exact T,?_⟩⟩;exact((am.f d).a (C.j (fun k e=>by subst e;exact t.1)) (fun _ e _=>e)).a (x.j (fun k e=>by subst e;exact z)) (fun _ e _=>e)
   have hw:IntKind.i64.wrap ((i:Int)+1)=(i:Int)+1:=ja (by omega) (by omega);have hi':(i:Int)<s.l.length:=by omega
   generalize cQ s c (uQ s)=r at *;go_wp2_with fail;refine G.mono ?_;rintro e b ⟨rfl,f,jG⟩;obtain⟨c0',f0',hd⟩:=H b f jG;go_wp2;go_ret;exact hd
