import Derived.Deep.DeepCutAuto
import Derived.Test.YtmbghcpcbdjfoaaGreatDoorPk20
open Go.Value renaming int->I,string->V
open Go.IntKind renaming i64->J
open Option renaming none->U
open Bool renaming false->F
open Go renaming World->X
set_option maxHeartbeats 4000000
set_option maxRecDepth 100000
open Go.Proofs.Tryz
namespace Go.Proofs.YtmbghcpcbdjfoaaGreatDoor
open Go.RowKit
def pD (b:ae):Int×Nat:=match dp b with
 | none=>(0,0)
 | some p=>p
theorem SW (b:ae):pD b=match kj b with
 | none=>(0,0)
 | some (m,s)=>((m:Int)-1,s):=by
 unfold pD dp;cases kj b <;> rfl
def qG (b:ae)(i S:Nat):Prop:=S<128 ^ i∧kj b=(fL (5-i) (decide (i=0)) (b.drop i)).map fun p=>(S+128 ^ i*p.1,p.2+i)
theorem qG.j (b:ae):qG b 0 0:=by
 refine⟨by decide,?_⟩;unfold kj;show _=(fL 5 true b).map _;cases fL 5 true b with
 | none=>rfl
 | some p=>simp
theorem qG.d {b:ae}{i S:Nat}(h:qG b i S)(c:¬(i<b.length∧i<5)):kj b=U:=by
 rw[h.2];by_cases d:i<5
 . rw[lz (by omega),L3];rfl
 . obtain⟨k,a⟩:∃k,k=5-i:=⟨_,rfl⟩;rw[<-a,show k=0 by omega];rfl
theorem qG.f {b:ae}{i S:Nat}(h:qG b i S)(a:i<5)(c:i<b.length)(d:¬b[i].toNat<128):qG b (i+1) (S+b[i].toNat % 128*128 ^ i):=by
 refine⟨?_,?_⟩
 . have g:=h.1;rw[Nat.pow_succ];have e:b[i].toNat % 128<=127:=by omega
   have j:b[i].toNat % 128*128 ^ i<=127*128 ^ i:=Nat.mul_le_mul_right _ e;omega
 . rw[h.2,AP b i a c _ rfl,if_neg d];have f:decide (i+1=0)=F:=by simp
   rw[f];cases fL (5-(i+1)) F (b.drop (i+1)) with
   | none=>rfl
   | some p =>
     obtain⟨m,s⟩:=p;simp only[Option.map_some];congr 2
     . rw[Nat.pow_succ,Nat.mul_add,fC];congr 2
       . exact Nat.mul_comm _ _
       . rw[Nat.mul_assoc]
     . omega
theorem qG.a {b:ae}{i S:Nat}(h:qG b i S)(a:i<5)(c:i<b.length)(d:b[i].toNat=0)(e:0<i):kj b=U:=by grind [qG,kj,AP]
theorem qG.e {b:ae}{i S:Nat}(h:qG b i S)(c:i<5)(d:i<b.length)(a:b[i].toNat<128)(e:¬(b[i].toNat=0∧0<i)):kj b=some (S+b[i].toNat % 128*128 ^ i,i+1):=by
 rw[h.2,AP b i c d _ rfl,if_pos a,if_neg (by rintro ⟨f,g⟩;exact e ⟨f,by simp at g;omega⟩)];simp only[Option.map_some];rw[Nat.mod_eq_of_lt a,Nat.mul_comm];congr 2;omega
theorem Am {i:Nat}(h:i<5):i=0∨i=1∨i=2∨i=3∨i=4:=by omega
theorem IP (b:ae)(ao:ai)(cap n:Nat)(w:X)(y:ay w ao cap b)(C:b.length=n)(hN:n<=1000000000):
 Calls prog 208 #[.slice ao n cap] w fun e w'=>e=.returned (.tuple #[I J (pD b).1,I J ((pD b).2:Int)])∧w'=w:=by
 have d:=aa (SW b);have j:=y.1;rw[C] at j;obtain⟨k,D,r⟩:∃k:Nat,k<=5∧(k=n∧n<=5∨k=5∧5<n):=by
  by_cases h:n<=5
  . exact⟨n,h,Or.inl ⟨rfl,h⟩⟩
  . exact⟨5,ak _,Or.inr ⟨rfl,by omega⟩⟩
 go_enter func208,ntmps208;go_upto_region 2 with fail
 go_cut [11,12,13] (fun s G l H=>s=.slice ao k cap∧G=I J k∧l=I J 0∧H=w)
 case first =>
  rcases r with ⟨rfl,L⟩ | ⟨rfl,L⟩
  . have t:¬(5:Int)<k:=by omega
    go_wp2;go_meet;exact⟨rfl,rfl,rfl,rfl⟩
  . have t:(5:Int)<n:=by omega
    have N:(5:Int)<=cap:=by omega
    go_wp2;go_meet;exact⟨rfl,rfl,rfl,rfl⟩
 case rest =>
  obtain⟨rfl,rfl,rfl,rfl⟩:=hcut;have z:k<=n:=by omega
  have T:Hid (∀i,¬i<k->¬(i<b.length∧i<5)):=fun i W=>by omega
  go_wp2;go_loopw [4,13] (fun s l wr=>∃(i S:Nat),i<=k∧s=I J S∧l=I J i∧qG b i S∧wr=wc) (fun _ l _=>k-(intOf l).toNat)
  case atStart=>exact⟨0,0,ax _,rfl,rfl,qG.j b,rfl⟩
  case round =>
   obtain⟨i,S,W,rfl,rfl,m,hw⟩:=hrel;subst hw;have HR:=aa m;by_cases hlt:i<k
   . obtain⟨bb,oo,rfl,hc⟩:=y.j (by omega);have f:i<b.length:=by omega
     have p:=hc i f;have B:(i:Int)<k:=by omega
     have u:=m.f (by omega) f;have v:=m.a (by omega) f;have x:=m.e (by omega) f;have hS:=m.1;generalize b[i]=c at *;have hcl:=c.toNat_lt;by_cases g:c.toNat<128
     . have h1:¬(128:Int)<=c.toNat:=by omega
       by_cases q:c.toNat=0∧0<i
       . have a:=aa (v q.1 q.2);have hz1:((c.toNat:Int)==0)=true:=by rw[cM];omega
         obtain⟨hz2,hz3⟩:=q;rcases Am (i:=i) (by omega) with rfl | rfl | rfl | rfl | rfl
         . omega
         . skip;go_wp2;go_ret2;exact⟨by rw[d.o,a.o];rfl,rfl⟩
         . skip;go_wp2;go_ret2;exact⟨by rw[d.o,a.o];rfl,rfl⟩
         . skip;go_wp2;go_ret2;exact⟨by rw[d.o,a.o];rfl,rfl⟩
         . skip;go_wp2;go_ret2;exact⟨by rw[d.o,a.o];rfl,rfl⟩
       . have a:=aa (x g q);rcases Am (i:=i) (by omega) with rfl | rfl | rfl | rfl | rfl
         . rw[lC] at p;go_wp2;all_goals
            go_ret2;refine⟨?_,rfl⟩;rw[d.o,a.o];first | (simp;done) | (simp;omega)
         . skip;go_wp2;all_goals
            go_ret2;refine⟨?_,rfl⟩;rw[d.o,a.o];first | (simp;done) | (simp;omega)
         . skip;go_wp2;all_goals
            go_ret2;refine⟨?_,rfl⟩;rw[d.o,a.o];first | (simp;done) | (simp;omega)
         . skip;go_wp2;all_goals
            go_ret2;refine⟨?_,rfl⟩;rw[d.o,a.o];first | (simp;done) | (simp;omega)
         . skip;go_wp2;all_goals
            go_ret2;refine⟨?_,rfl⟩;rw[d.o,a.o];first | (simp;done) | (simp;omega)
     . have h1:(128:Int)<=c.toNat:=by omega
       have a:=u g;rcases Am (i:=i) (by omega) with rfl | rfl | rfl | rfl | rfl
       . rw[lC] at p;go_wp2;go_roundw
         case rel=>exact⟨1,S+c.toNat % 128*128 ^ 0,by omega,by first | (congr 1;done) | (congr 1;omega),by go_num,a,by first | rfl | trivial⟩
         case measure=>simp[intOf];omega
       . skip;go_wp2;go_roundw
         case rel=>exact⟨2,S+c.toNat % 128*128 ^ 1,by omega,by first | (congr 1;done) | (congr 1;omega),by go_num,a,by first | rfl | trivial⟩
         case measure=>simp[intOf];omega
       . skip;go_wp2;go_roundw
         case rel=>exact⟨3,S+c.toNat % 128*128 ^ 2,by omega,by first | (congr 1;done) | (congr 1;omega),by go_num,a,by first | rfl | trivial⟩
         case measure=>simp[intOf];omega
       . skip;go_wp2;go_roundw
         case rel=>exact⟨4,S+c.toNat % 128*128 ^ 3,by omega,by first | (congr 1;done) | (congr 1;omega),by go_num,a,by first | rfl | trivial⟩
         case measure=>simp[intOf];omega
       . skip;go_wp2;go_roundw
         case rel=>exact⟨5,S+c.toNat % 128*128 ^ 4,by omega,by first | (congr 1;done) | (congr 1;omega),by go_num,a,by first | rfl | trivial⟩
         case measure=>simp[intOf];omega
   . obtain rfl:i=k:=by omega
     have HE:=HR.o.d (T.o _ (by omega));go_wp2;go_ret2;exact⟨by rw[d.o,HE];rfl,rfl⟩
structure sC (w:X)(g cap:Nat)(x:ae)(k:Nat)(wr:X):Prop where
 a:dZ wr g g cap (kh k x)
 below:Below g w wr
theorem sC.e {w wr:X}{g cap k:Nat}{x:ae}(h:sC w g cap x k wr)(a:k<x.length)(hd:mB x[k]=true):sC w g cap x (k+1) (wr.setCell ⟨g,k,U⟩ (I .u8 95)):=by
 obtain⟨b,c⟩:=h.a.B k 95;have d:kP x[k]=95:=by unfold kP;rw[hd];rfl
 refine⟨by rw[JP a,d];exact b,h.below.trans (c.below (fun i e=>by omega) (Nat.le_of_lt h.a.b))⟩
theorem sC.d {w wr:X}{g cap k:Nat}{x:ae}(h:sC w g cap x k wr)(a:k<x.length)(hd:mB x[k]=F):sC w g cap x (k+1) wr:=⟨by rw[JQ a hd];exact h.a,h.below⟩
theorem FA (s:ag)(w:X)(hs:s.size<=1000000):
 Calls prog 355 #[V s] w fun e w'=>e=.returned (V ⟨(oX s.data.toList).toArray⟩)∧Below w.heap.size w w':=by
 have hl:=ep s;have H1:=aa (E9 s 47 w (by unfold maxLen;omega));have H2:=aa (E9 s 92 w (by unfold maxLen;omega));go_enter func355,ntmps355;go_upto_region 1 with fail
 go_cut [3] (fun v wd=>∃p:Nat,v=I J ((p:Int)-1)∧p<=s.size∧s.data.toList.drop p=nu s.data.toList∧wd=w)
 case first =>
  go_wp2_with fail;refine H1.o.mono ?_;rintro e w1 ⟨G,rfl,hr1,g⟩;subst g;go_wp2_with fail;refine H2.o.mono ?_;rintro e w2 ⟨H,rfl,hr2,g⟩;subst g;obtain⟨q1,q2,q3⟩:=Rg hr1 hr2;rw[hl] at q2;have r:=aa q3;by_cases hlt:G<H
  . have e:max G H=H:=by omega
    rw[e] at r q1 q2;go_wp2;go_meet;exact⟨(H+1).toNat,by rw[show(((H+1).toNat:Nat):Int)-1=H by omega],by omega,r.o,rfl⟩
  . have e:max G H=G:=by omega
    rw[e] at r q1 q2;go_wp2;go_meet;exact⟨(G+1).toNat,by rw[show(((G+1).toNat:Nat):Int)-1=G by omega],by omega,r.o,rfl⟩
 case rest =>
 obtain⟨p,rfl,hps,q3,g⟩:=hcut;subst g;have aqt:(p:Int)<=s.size:=by omega
 have hx:(s.extract p s.size).data.toList=nu s.data.toList:=by
  rw[<-q3,Lib.extract_to_end]
 have hxs:(s.extract p s.size).size=(nu s.data.toList).length:=sq hx;have htl:(nu s.data.toList).length<=s.size:=by rw[<-q3,bV,hl];omega
 obtain⟨i,w3,qL,hB3,hBf⟩:=xR (P:=prog) wc (s.extract p s.size) 9 31 5 (by rw[hxs];unfold maxLen;omega) underlying9 underlying31 underlying5;rw[hx] at hBf;rw[hxs] at qL;have HSf:Hid (oX s.data.toList=uQ ((sE ((nu s.data.toList).map kP)).take 40)):=rfl;have akU:Hid (sC wc wc.heap.size i (nu s.data.toList) 0 w3):=⟨by rw[JO];exact hBf,hB3⟩;obtain⟨C,hsf⟩:∃C,oX s.data.toList=C:=⟨_,rfl⟩;rw[hsf] at HSf;have L:=aa hsf;generalize nu s.data.toList=x at *;obtain⟨n,hn⟩:∃n,x.length=n:=⟨_,rfl⟩;have HN:=aa hn;rw[hn] at qL htl;have hn6:n<=1000000:=by omega
 go_wp2;go_loopw [19] (fun vi wr=>∃k:Nat,k<=n∧vi=I J k∧sC wc wc.heap.size i x k wr) (fun vi _=>n-(intOf vi).toNat)
 case atStart=>exact⟨0,ax _,rfl,akU.o⟩
 case round =>
  obtain⟨k,hk,rfl,hR⟩:=hrel;have N:=aa hR;by_cases hlt:k<n
  . have t:k<x.length:=by rw[HN.o];exact hlt
    have hlt':(k:Int)<n:=by omega
    have hcap:n<=i:=by have:=N.o.a.e;rw[Ai,HN.o] at this;exact this
    have ck:wr.cell? ⟨wc.heap.size,k,U⟩=some (I .u8 (x[k].toNat:Int)):=by
     have h1:k<(kh k x).length:=by rw[Ai];exact t
     have:=N.o.a.d k _ (lI _ k h1);rw[Kf t] at this;exact this
    have fk:wr.frozen? ⟨wc.heap.size,k,U⟩=F:=(N.o.a.a k (by omega)).2;have O6:=N.o.e t;have HS2:=aa (N.o.d t);have HV:=aa (fun W=>yW (x[k].toNat:Int) W);have T:∀d:UInt8,((x[k].toNat:Int)==(d.toNat:Int))=decide (x[k]=d):=fun d=>by
     rw[ik,cM,bS];constructor
     . intro e;exact pq.1 (by omega)
     . intro e;rw[e]
    have t9:((x[k].toNat:Int)==9)=decide (x[k]=9):=T 9;have t34:((x[k].toNat:Int)==34)=decide (x[k]=34):=T 34;have t58:((x[k].toNat:Int)==58)=decide (x[k]=58):=T 58;have HD:Hid (mB x[k]=(decide (x[k]=9)||decide (x[k]=34)||decide (x[k]=58)||!cG x[k].toNat)):=by unfold Hid mB;rfl
    generalize x[k]=c at *;by_cases h9:c=9
    . have y:mB c=true:=by rw[HD.o,aV h9];rfl
      rw[aV h9] at t9;have z:=aa (O6 y);go_wp2;go_roundw
      case rel=>exact⟨k+1,by omega,by go_num,z.o⟩
      case measure=>simp[intOf];omega
    . rw[aW h9] at t9;by_cases O3:c=34
      . have y:mB c=true:=by rw[HD.o,aV O3];simp
        rw[aV O3] at t34;have z:=aa (O6 y);go_wp2;go_roundw
        case rel=>exact⟨k+1,by omega,by go_num,z.o⟩
        case measure=>simp[intOf];omega
      . rw[aW O3] at t34;by_cases B:c=58
        . have y:mB c=true:=by rw[HD.o,aV B];simp
          rw[aV B] at t58;have z:=aa (O6 y);go_wp2;go_roundw
          case rel=>exact⟨k+1,by omega,by go_num,z.o⟩
          case measure=>simp[intOf];omega
        . rw[aW B] at t58;rw[aW h9,aW O3,aW B] at HD;cases hv:cG (c.toNat:Int)
          . have y:mB c=true:=by rw[HD.o,hv];rfl
            rw[hv] at HV;have z:=aa (O6 y);go_wp2_with (go_at_call 228;refine(HV.o _).mono ?_;rintro e w4 ⟨rfl,g⟩;subst g)
            go_roundw
            case rel=>exact⟨k+1,by omega,by go_num,z.o⟩
            case measure=>simp[intOf];omega
          . have y:mB c=F:=by rw[HD.o,hv];rfl
            rw[hv] at HV;have z:=aa (HS2.o y);go_wp2_with (go_at_call 228;refine(HV.o _).mono ?_;rintro e w4 ⟨rfl,g⟩;subst g)
            go_roundw
            case rel=>exact⟨k+1,by omega,by go_num,z.o⟩
            case measure=>simp[intOf];omega
  . obtain rfl:k=n:=by omega
    have hIs:ay wr (some ⟨wc.heap.size,0,U⟩) i (x.map kP):=by
     have:=N.o.a.q;rw[<-HN.o,JZ] at this;exact this
    have HU:=aa (Og wr _ i k _ hIs (by rw[ij];exact HN.o));have ahb:Hid (C=uQ ((sE (x.map kP)).take 40)):=HSf.o;have Zx:=aa N.o.below;go_wp2_with fail;refine HU.o.mono ?_;rintro e w4 ⟨gQ,a,f,rfl,hn',hI',g⟩;subst g;have ahc:f=(sE (x.map kP)).length:=hn';have ahd:ay w4 gQ a (sE (x.map kP)):=hI';have b:=aa ahc;have HI':=aa ahd
    clear hn' hI' ahc ahd HU;generalize sE (x.map kP)=u at *;have Za:f<=a:=by rw[b.o];exact HI'.o.1
    have D:∀j,j=min f 40->0<j->(convert 31 9 (.slice gQ j a)).run prog w4=.ok (V ⟨C.toArray⟩) w4:=fun j hj h0=>by
     have h1:=HI'.o.G j (by rw[<-b.o];omega);have h2:=h1.r (P:=prog) 31 9 5 underlying31 underlying5 underlying9;have h3:(u.take j).length=j:=by rw[bP,<-b.o];omega
     rw[h3] at h2;have h4:C=u.take j:=by
      rw[ahb.o,hj];have:u.take 40=u.take (min f 40):=by
       rcases Nat.le_total f 40 with e | e
       . rw[oC e,jy (by rw[<-b.o];exact e),jy (by rw[<-b.o];omega)]
       . rw[Nat.min_eq_right e]
      rw[this];unfold uQ;rw[if_neg];intro e;rw[hj] at h3;rw[e] at h3;simp at h3;omega
     rw[h4];exact h2
    have l:=aa D;clear D;by_cases h0:f=0
    . subst h0;have HF:Hid (C=[102,105,108,101]):=by
       unfold Hid;have hu:u=[]:=gW b.o.symm;rw[ahb.o,hu];rfl
      clear l;go_wp2;go_ret;exact⟨by rw[L.o,HF.o];rfl,Zx.o⟩
    . by_cases h40:f<=40
      . have S:=l.o f (by omega) (by omega);have t0:((f:Int)==0)=F:=by rw[aO];omega
        have h4a:(f:Int)<=40:=by omega
        obtain⟨m,q⟩:∃m:ag,(⟨C.toArray⟩:ag)=m:=⟨_,rfl⟩;rw[q] at S;have HSb:=aa q;go_wp2;go_ret;exact⟨by rw[L.o,HSb.o];rfl,Zx.o⟩
      . have S:=l.o 40 (by omega) (by omega);have h4a:¬(f:Int)<=40:=by omega
        have h4b:(40:Int)<f:=by omega
        have h4c:(40:Int)<=a:=by omega
        obtain⟨m,q⟩:∃m:ag,(⟨C.toArray⟩:ag)=m:=⟨_,rfl⟩;rw[q] at S;go_wp2;go_ret;exact⟨by rw[L.o,q];rfl,Zx.o⟩
theorem Uu (s:ag)(k:Nat):(s.extract 0 k).data.toList=s.data.toList.take k:=by
 rw[Lib.extract_data];simp
theorem UR (s:ag)(i:Nat)(h:i+2<s.size):(s.extract (i+1) (i+3)).data.toList=[s[i+1]'(by omega),s[i+2]'(by omega)]∧s.data.toList.drop i=s[i]'(by omega)::s[i+1]'(by omega)::s[i+2]'(by omega)::s.data.toList.drop (i+3):=by
 have b:=ep s;have d:∀k (a:k<s.size),s.data.toList.drop k=s[k]::s.data.toList.drop (k+1):=fun k a=>by
  rw[gS (by rw[b];exact a),yD s k a]
 refine⟨?_,by rw[d i (by omega),d (i+1) (by omega),d (i+2) (by omega)]⟩;rw[Lib.extract_data,show i+3-(i+1)=2 by omega,d (i+1) (by omega),d (i+2) (by omega)];rfl
def pF (o:Option (ae)):Value:=.tuple #[V ⟨(o.getD []).toArray⟩,.bool o.isSome]
structure FC (w:X)(l:ae)(i:Nat)(ao:ai)(cap n:Nat)(wr:X):Prop where
 b:∃bs,bC wr w.heap.size 5 ao cap bs∧n=bs.length∧n<=i∧ja (l.drop 7)=jG bs (l.drop i)
 below:Below w.heap.size w wr
theorem FC.a {w wr b:X}{l bs:ae}{c:UInt8}{ao j:ai}{cap m n i:Nat}{o:Obj}(d:Below w.heap.size w wr)(p:bC wr w.heap.size 5 ao cap bs)(f:bC b w.heap.size 5 j m (bs++[c]))(g:(wr.alloc o).grownBy b (au ao))(q:n=bs.length)(r:n+1<=i)(hd:ja (l.drop 7)=jG (bs++[c]) (l.drop i)):FC w l i j m (n+1) b:=by
 refine⟨⟨bs++[c],f,by rw[aF,q];rfl,r,hd⟩,(d.alloc d.size o).grown g (by rw[ch];have:=d.size;omega) (fun k e=>?_)⟩;cases ao with
 | none=>simp[au] at e
 | some a=>simp[au] at e;have:=(p.d a rfl).1;omega
theorem Oh (s:ag)(w:X)(hs:s.size<=1000000):
 Calls prog 354 #[V s] w fun e w'=>e=.returned (pF (kf s.data.toList))∧Below w.heap.size w w':=by
 have u:=ep s;by_cases h7:s.size<7
 . have m:Hid (kf s.data.toList=U):=by unfold Hid kf;rw[if_pos (Or.inl (by rw[u];exact h7))]
   have t7:decide ((s.size:Int)<7)=true:=aV (by omega);go_enter func354,ntmps354;go_wp2;go_ret2;exact⟨by rw[m.o];rfl,aq _ _⟩
 . have t7:decide ((s.size:Int)<7)=F:=aW (by omega);have h7':(7:Int)<=s.size:=by omega
   have hx:=Uu s 7;have N:(s.extract 0 7).size=7:=by rw[sq hx,bP,u];omega
   have S:=rN (s.extract 0 7) w (by rw[N];unfold maxLen;omega);rw[hx] at S;by_cases H:aU (s.data.toList.take 7)=Ec
   . have m:Hid (kf s.data.toList=ja (s.data.toList.drop 7)):=by unfold Hid kf;rw[if_neg (fun e=>by rcases e with e | e;rw[u] at e;exact h7 e;exact e H)]
     have tu:((⟨(aU (s.data.toList.take 7)).toArray⟩:ag).toList==[117,116,102,45,56,39,39])=true:=by
      rw[cM,Lib.toList_data];exact H
     generalize (⟨(aU (s.data.toList.take 7)).toArray⟩:ag)=lo at *;go_enter func354,ntmps354;obtain⟨i0,T,hz0,hz1,p⟩:=info_parts il;have Hi:=T;have kT:=aa hz0;have kL:=aa hz1;have kU:=aa p
     go_wp2_with (go_at_call 258;refine S.mono ?_;rintro e w1 ⟨rfl,q⟩)
     go_loopw [4,5] (fun vb vi wr=>∃(i n:Nat) (ao:ai) (r:Nat),7<=i∧i<=s.size∧vi=I J i∧vb=.slice ao n r∧FC w s.data.toList i ao r n wr) (fun _ vi _=>s.size-(intOf vi).toNat)
     case atStart=>exact⟨7,0,U,0,ak _,by omega,rfl,rfl,⟨⟨[],bC.e _ _ _,rfl,by omega,(J1 _).symm⟩,q⟩⟩
     case round =>
      obtain⟨i,n,ao,r,hi7,his,rfl,rfl,hR⟩:=hrel;obtain⟨⟨bs,hO,hn,hni,hd⟩,hB⟩:=hR;have x:=aa hO;have y:=aa hn;have k:=aa hd;have t:=aa hB
      clear hO hn hd hB;by_cases z:i<s.size
      . have hlt':(i:Int)<s.size:=by omega
        have B:s.data.toList.drop i=s[i]::s.data.toList.drop (i+1):=by rw[gS (by rw[u];exact z),yD s i z]
        by_cases d:s[i]=37
        . have t37:((s[i].toNat:Int) != 37)=F:=by rw[d];rfl
          by_cases hsh:s.size-i<3
          . have tsh:decide ((s.size:Int)-i<3)=true:=aV (by omega);have C:Hid (kf s.data.toList=U):=by
             unfold Hid;rw[m.o,k.o,B,d,J0 (by rw[bV,u];omega)]
            go_wp2;go_ret2;exact⟨by rw[C.o];rfl,t.o⟩
          . have tsh:decide ((s.size:Int)-i<3)=F:=aW (by omega);obtain⟨D,G⟩:=UR s i (by omega);have p:(s.extract (i+1) (i+3)).size=2:=sq D;have f:=fun W=>CM (s.extract (i+1) (i+3)) W (by rw[p];unfold maxLen;omega);rw[D,J2] at f;rw[d] at G;rw[G] at k;have i1:(i:Int)+1<=(i:Int)+3:=by omega
            have i3:(i:Int)+3<=s.size:=by omega
            have e1:((i:Int)+1).toNat=i+1:=by omega
            have e3:((i:Int)+3).toNat=i+3:=by omega
            generalize s[i+1]=a at *;generalize s[i+2]=b at *;by_cases c:0<=bl a.toNat∧0<=bl b.toNat
            . obtain⟨hbt,hle⟩:=Kv c.1 c.2;rw[Kz c.1 c.2] at k;rw[if_pos c] at f;have hge:0<=16*bl a.toNat+bl b.toNat:=by omega
              generalize 16*bl (a.toNat:Int)+bl (b.toNat:Int)=v at *;generalize v.toNat.toUInt8=L at *;subst hbt;have hwr:IntKind.u8.wrap (L.toNat:Int)=L.toNat:=by
               rw[IntKind.wrap_u8];have:=L.toNat_lt;omega
              have hnc:n+1<=140737488355328:=by omega
              go_wp2_with (first
               | (go_at_call 356;refine(f _).mono ?_;rintro e w2 ⟨rfl,hw⟩;subst hw)
               | (at_builtin;refine nQ rfl (.tmp 50) (.tmp 53) 31 rfl w.heap.size 5 i0 underlying31 Hi kT.o kL.o kU.o (l:=bs) (l2:=[L]) rfl y.o.symm (x.o.j _) rfl rfl (ay.y _ _ _ _) (by omega) (by rw[ch];have:=t.o.size;omega) ?_;intro lu iq w3 g j;have sG:=aa g;have Av:=aa j;clear g j))
              go_roundw
              case rel=>exact⟨i+3,n+1,lu,iq,by omega,by omega,by go_num,rfl,FC.a t.o x.o sG.o Av.o y.o (by omega) k.o⟩
              case measure=>simp[intOf];omega
            . have C:Hid (kf s.data.toList=U):=by
               unfold Hid;rw[m.o,k.o,Ku c]
              rw[if_neg c] at f;go_wp2_with (go_at_call 356;refine(f _).mono ?_;rintro e w2 ⟨rfl,hw⟩;subst hw)
              go_ret2;exact⟨by rw[C.o];rfl,t.o⟩
        . have t37:((s[i].toNat:Int) != 37)=true:=by rw[cW];intro e;exact d (pq.1 (by show _=37;omega))
          rw[B,Kg d] at k;go_wp2_with (at_builtin;refine nQ rfl (.tmp 27) (.tmp 31) 31 rfl w.heap.size 5 i0 underlying31 Hi kT.o kL.o kU.o (l:=bs) (l2:=[s[i]]) rfl y.o.symm (x.o.j _) rfl rfl (ay.y _ _ _ _) (by omega) (by rw[ch];have:=t.o.size;omega) ?_;intro lu iq w3 g j;have sG:=aa g;have Av:=aa j;clear g j)
          go_roundw
          case rel=>exact⟨i+1,n+1,lu,iq,by omega,by omega,by go_num,rfl,FC.a t.o x.o sG.o Av.o y.o (by omega) k.o⟩
          case measure=>simp[intOf];omega
      . obtain rfl:i=s.size:=by omega
        have hcv:=x.o.a.r (P:=prog) 31 9 5 underlying31 underlying5 underlying9;rw[<-y.o] at hcv;have C:Hid (kf s.data.toList=some bs):=by
         unfold Hid;rw[m.o,k.o,lz (by rw[u];exact ak _),Ky]
        go_wp2;go_ret2;exact⟨by rw[C.o];rfl,t.o⟩
   . have m:Hid (kf s.data.toList=U):=by unfold Hid kf;rw[if_pos (Or.inr H)]
     have tu:((⟨(aU (s.data.toList.take 7)).toArray⟩:ag).toList==[117,116,102,45,56,39,39])=F:=by
      rw[aO,Lib.toList_data];exact H
     generalize (⟨(aU (s.data.toList.take 7)).toArray⟩:ag)=lo at *;go_enter func354,ntmps354;go_wp2_with (go_at_call 258;refine S.mono ?_;rintro e w1 ⟨rfl,q⟩)
     go_ret2;exact⟨by rw[m.o];rfl,q⟩
