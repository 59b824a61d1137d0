/- Small texts, one behind the other: JrC, LwPiec. -/
import Derived.Test.YtjmndjmhjleabaaGreatDoorPk9
import Derived.Test.YtjmndjmhjleabaaGreatDoorBase
import Derived.Test.YtjmndjmhjleabaaGreatDoorPk1
import Derived.Test.YtjmndjmhjleabaaGreatDoorProg
import Derived.Deep.DeepCutAuto
import Derived.Test.YtjmndjmhjleabaaGreatDoorPk10
set_option maxHeartbeats 2000000
set_option maxRecDepth 100000
open Go.Proofs.Tryz
namespace Go.Proofs.YtjmndjmhjleabaaGreatDoor
open Go.RowKit
structure Pc where
 ao:Option Addr
 cap:Nat
 l:List UInt8
def Pc.v (p:Pc):Value:=.slice p.ao p.l.length p.cap
def Tf (ps:List Pc):List Value:=ps.map Pc.v
structure V8 (w:World)(bo:Option Addr)(p:Pc):Prop where
 is:aU w p.ao p.cap p.l
 blk:p.l≠[]->∀a,p.ao=some a->∃a0,bo=some a0∧a.block=a0.block
structure qE (w:World)(bo:Option Addr)(l:List UInt8)(fr:Nat)(ao:Option Addr)(cap:Nat)(ps:List Pc)(wr:World):Prop where
 own:aC wr w.heap.size 31 1 ao cap ps.length (Tf ps)
 all:∀p∈ps,V8 w bo p
 flat:(ps.map Pc.l).flatten=l.take fr
 below:Below w.heap.size w wr
theorem I7 (ps:List Pc):(Tf ps).length=ps.length:=by simp[Tf]
theorem QI (c:Int)(n fr:Nat)(h:fr<=n):0<=(IntKind.u64.wrap c).tmod ((n:Int)-fr+1)∧(IntKind.u64.wrap c).tmod ((n:Int)-fr+1)<=(n:Int)-fr:=by
 have h0:0<=IntKind.u64.wrap c:=by rw[IntKind.wrap_u64];omega
 have h1:=Int.tmod_nonneg ((n:Int)-fr+1) h0;have h2:=Int.tmod_lt_of_pos (IntKind.u64.wrap c) (b:=(n:Int)-fr+1) (by omega);exact⟨h1,by omega⟩
theorem Tg:(prog.info? 31).map (fun i=>(i.zero,i.size,i.bytes))=some (some (.slice none 0 0),1,24):=by kernel_rfl
theorem V9 {w:World}{bo aD:Option Addr}{aj:Nat}{l:List UInt8}(h:aU w bo aj l)(fr k:Nat)(h1:fr<=k)(h2:k<=l.length)(e:aj≠fr->aD=bo.map (·.add fr)):V8 w bo ⟨aD,aj-fr,(l.drop fr).take (k-fr)⟩:=by
 refine⟨h.cut fr k h1 h2 e,fun hne a ha=>?_⟩;have hc:l.length<=aj:=h.1;have hlt:fr<k:=by
  rcases Nat.lt_or_ge fr k with g | g
  . exact g
  . exact absurd (by rw[show k-fr=0 by omega,List.take_zero]) hne
 have ha':aD=some a:=ha;rw[e (by omega)] at ha';cases bo with
 | none=>simp at ha'
 | some a0=>refine⟨a0,rfl,?_⟩;simp at ha';rw[<-ha',add_block]
theorem qE.snoc {w:World}{bo:Option Addr}{l:List UInt8}{fr k:Nat}{ao dN:Option Addr}{cap cap2:Nat}{ps:List Pc}{p:Pc}{wr w':World}(h:qE w bo l fr ao cap ps wr)(hp:V8 w bo p)(hpl:p.l=(l.drop fr).take (k-fr))(h1:fr<=k)(hO:aC w' w.heap.size 31 1 dN cap2 (ps.length+1) (Tf ps++[p.v]))(hB:Below w.heap.size w w'):qE w bo l k dN cap2 (ps++[p]) w':=by
 refine⟨?_,fun q hq=>?_,?_,hB⟩
 . rw[List.length_append];have:Tf (ps++[p])=Tf ps++[p.v]:=by simp[Tf]
   rw[this];exact hO
 . rcases List.mem_append.1 hq with hq | hq
   . exact h.all q hq
   . rw[List.mem_singleton.1 hq];exact hp
 . rw[List.map_append,List.flatten_append,h.flat];show l.take fr++[p.l].flatten=_;rw[hpl];have:[(l.drop fr).take (k-fr)].flatten=(l.drop fr).take (k-fr):=by simp
   rw[this];have e:k=fr+(k-fr):=by omega
   conv=>rhs;rw[e,List.take_add]
theorem qE.push {w:World}{bo:Option Addr}{aj:Nat}{l:List UInt8}{fr k:Nat}{ao dN:Option Addr}{cap cap2:Nat}{ps:List Pc}{wr w':World}{ob:Obj}(h:qE w bo l fr ao cap ps wr)(hI:aU w bo aj l)(aD:Option Addr)(m c:Nat)(hm:m=k-fr)(hc:c=aj-fr)(e:aj≠fr->aD=bo.map (·.add fr))(h1:fr<=k)(h2:k<=l.length)(hO:aC w' w.heap.size 31 1 dN cap2 (ps.length+1) (Tf ps++[.slice aD m c]))(hG:(wr.alloc ob).grownBy w' (au ao)):∃p,qE w bo l k dN cap2 (ps++[p]) w':=by
 subst hm;subst hc;have hs:=h.below.size;refine⟨⟨aD,aj-fr,(l.drop fr).take (k-fr)⟩,h.snoc (V9 hI fr k h1 h2 e) rfl h1 ?_ ?_⟩
 . have hx:(Value.slice aD (k-fr) (aj-fr))=Pc.v ⟨aD,aj-fr,(l.drop fr).take (k-fr)⟩:=by
    show _=Value.slice _ ((l.drop fr).take (k-fr)).length _;rw[List.length_take,List.length_drop];congr 1;omega
   rw[<-hx];exact hO
 . exact(h.below.alloc hs _).grown hG (by simp;omega) (fun q e=>by
    cases ao with
    | none=>simp[au] at e
    | some y=>simp only[au,Option.some.injEq] at e;have:=(h.own.block y rfl).1;omega)
theorem I8 (w:World)(l:List UInt8)(bo co:Option Addr)(aj n MU nc:Nat)(cs:List Int)(hB:aU w bo aj l)(hn:l.length=n)(hl:n<=100000)(hC:cu w co MU nc (cs.map fun c=>Value.int .i64 c))(hnc:cs.length=nc)(hc:nc<=1000):
 Calls prog 21 #[.slice bo n aj,.slice co nc MU] w fun e w'=>∃(ps:List Pc) (ao:Option Addr) (cap:Nat),e=.returned (.slice ao ps.length cap)∧qE w bo l l.length ao cap ps w'∧ps.length=nc+1:=by
 subst hn;subst hnc;have HB:=H9 hB;have HC:=H9 hC
 clear hB hC;obtain⟨i0,hi0,hz0,hz1,hz2⟩:=info_parts Tg;have Hi:=H9 hi0;have gQ:=H9 hz0;have gK:=H9 hz1;have gT:=H9 hz2
 clear hi0 hz0 hz1 hz2;go_enter func21,ntmps21;go_wp2;go_loopw [5,6,7] (fun vo vf vi wr=>∃(i fr:Nat) (ps:List Pc) (ao:Option Addr) (cap:Nat),i<=cs.length∧fr<=l.length∧vi=.int .i64 i∧vf=.int .i64 fr∧vo=.slice ao ps.length cap∧ps.length=i∧qE w bo l fr ao cap ps wr) (fun _ _ vi _=>cs.length-(intOf vi).toNat)
 case atStart=>exact⟨0,0,[],none,0,Nat.zero_le _,Nat.zero_le _,rfl,rfl,rfl,rfl,⟨aC.nil _ _ _ _,(fun p hp=>by cases hp),rfl,Below.refl _ _⟩⟩
 case round =>
  obtain⟨i,fr,ps,ao,cap,hi,hfr,rfl,rfl,rfl,hps,hP⟩:=hrel;have HP:=H9 hP;have JW:=H9 hps;have hpl:ps.length<=1000:=by omega
  clear hP hps;by_cases hlt:i<cs.length
  . obtain⟨bb,oo,rfl,hcc⟩:=HC.o.lit (by rw[List.length_map];omega);have hlt':(i:Int)<cs.length:=by omega
    have hcv:=HC.o.1;have ci:wr.cell? ⟨bb,oo+i,none⟩=some (.int .i64 cs[i]):=by
     have:=hcc i (.int .i64 cs[i]) (by rw[List.getElem?_map,List.getElem?_eq_getElem hlt];rfl);exact(HP.o.below.cell (World.block_lt_of_cell? w _ this)).trans this
    clear hcc;generalize cs[i]=c at *;go_upto_region 6 with fail
    go_cut [8] from 9 to 37 (fun vk wd=>∃k:Nat,fr<=k∧k<=l.length∧vk=.int .i64 k∧wd=wr)
    case first =>
     go_wp2;go_meet;obtain⟨h1,h2⟩:=QI c l.length fr hfr;exact⟨fr+((IntKind.u64.wrap c).tmod ((l.length:Int)-fr+1)).toNat,by omega,by omega,by rw[tY (x:=(IntKind.u64.wrap c).tmod ((l.length:Int)-fr+1)) (by omega) (by omega),tY (by omega) (by omega)];congr 1;omega,rfl⟩
    case rest =>
     obtain⟨k,hk1,hk2,rfl,hw⟩:=hcut;subst hw;have hcap:=HB.o.1;have k1:(fr:Int)<=k:=by omega
     have k2:(k:Int)<=aj:=by omega
     clear ci;cases bo with
     | none =>
       obtain⟨hl0,hc0⟩:=HB.o.kE;have hl1:l.length=0:=by rw[hl0];rfl
       have hkf:k=fr:=by omega
       have hcf:aj=fr:=by omega
       clear hl0 hc0 hl1;subst hkf;subst hcf;go_wp2_with (at_builtin;refine aK rfl (.tmp 30) (.tmp 35) 63 rfl w.heap.size 31 i0 (.slice none 0 0) 1 24 underlying63 Hi.o gQ.o gK.o gT.o rfl (by decide) rfl (HP.o.own.alloc _) rfl (cu.made _ _ 1 _ _) rfl (fun u hu=>by simp at hu;subst hu;rfl) (by omega) (by omega) (by have:=HP.o.below.size;simp;omega) ?_;intro fu aI w3 hO3 hG3 _)
       obtain⟨p,hp⟩:=HP.o.push HB.o (k:=aj) _ _ _ (by omega) (by omega) (fun e=>absurd rfl e) (by omega) hk2 hO3 hG3;go_roundw
       case rel=>exact⟨i+1,aj,ps++[p],fu,aI,by omega,hk2,by go_num,rfl,by rw[List.length_append];rfl,by rw[List.length_append,JW.o];rfl,hp⟩
       case measure=>simp[intOf];omega
     | some a =>
       by_cases hcf:aj=fr
       . have hkf:k=fr:=by omega
         subst hkf;subst hcf;go_wp2_with (at_builtin;refine aK rfl (.tmp 30) (.tmp 35) 63 rfl w.heap.size 31 i0 (.slice none 0 0) 1 24 underlying63 Hi.o gQ.o gK.o gT.o rfl (by decide) rfl (HP.o.own.alloc _) rfl (cu.made _ _ 1 _ _) rfl (fun u hu=>by simp at hu;subst hu;rfl) (by omega) (by omega) (by have:=HP.o.below.size;simp;omega) ?_;intro fu aI w3 hO3 hG3 _)
         obtain⟨p,hp⟩:=HP.o.push HB.o (k:=aj) _ _ _ (by omega) (by omega) (fun e=>absurd rfl e) (by omega) hk2 hO3 hG3;go_roundw
         case rel=>exact⟨i+1,aj,ps++[p],fu,aI,by omega,hk2,by go_num,rfl,by rw[List.length_append];rfl,by rw[List.length_append,JW.o];rfl,hp⟩
         case measure=>simp[intOf];omega
       . go_wp2_with (at_builtin;refine aK rfl (.tmp 30) (.tmp 35) 63 rfl w.heap.size 31 i0 (.slice none 0 0) 1 24 underlying63 Hi.o gQ.o gK.o gT.o rfl (by decide) rfl (HP.o.own.alloc _) rfl (cu.made _ _ 1 _ _) rfl (fun u hu=>by simp at hu;subst hu;rfl) (by omega) (by omega) (by have:=HP.o.below.size;simp;omega) ?_;intro fu aI w3 hO3 hG3 _)
         obtain⟨p,hp⟩:=HP.o.push HB.o (k:=k) _ _ _ (by omega) (by omega) (fun _=>rfl) (by omega) hk2 hO3 hG3;go_roundw
         case rel=>exact⟨i+1,k,ps++[p],fu,aI,by omega,hk2,by go_num,rfl,by rw[List.length_append];rfl,by rw[List.length_append,JW.o];rfl,hp⟩
         case measure=>simp[intOf];omega
  . obtain rfl:i=cs.length:=by omega
    have hcap:=HB.o.1;have k1:(fr:Int)<=l.length:=by omega
    cases bo with
    | none =>
      obtain⟨hl0,hc0⟩:=HB.o.kE;have hl1:l.length=0:=by rw[hl0];rfl
      have hcf:aj=fr:=by omega
      have hlf:l.length=fr:=by omega
      clear hl0 hc0 hl1;subst hcf;go_wp2_with (at_builtin;refine aK rfl (.tmp 38) (.tmp 42) 63 rfl w.heap.size 31 i0 (.slice none 0 0) 1 24 underlying63 Hi.o gQ.o gK.o gT.o rfl (by decide) rfl (HP.o.own.alloc _) rfl (cu.made _ _ 1 _ _) rfl (fun u hu=>by simp at hu;subst hu;rfl) (by omega) (by omega) (by have:=HP.o.below.size;simp;omega) ?_;intro fu aI w3 hO3 hG3 _)
      obtain⟨p,hp⟩:=HP.o.push HB.o (k:=l.length) _ _ _ (by omega) (by omega) (fun e=>absurd rfl e) (by omega) (Nat.le_refl _) hO3 hG3;go_ret;exact⟨ps++[p],fu,aI,by rw[List.length_append];rfl,(by rw[hlf] at hp;exact hp),by rw[List.length_append,JW.o];rfl⟩
    | some a =>
      by_cases hcf:aj=fr
      . have hlf:l.length=fr:=by omega
        subst hcf;go_wp2_with (at_builtin;refine aK rfl (.tmp 38) (.tmp 42) 63 rfl w.heap.size 31 i0 (.slice none 0 0) 1 24 underlying63 Hi.o gQ.o gK.o gT.o rfl (by decide) rfl (HP.o.own.alloc _) rfl (cu.made _ _ 1 _ _) rfl (fun u hu=>by simp at hu;subst hu;rfl) (by omega) (by omega) (by have:=HP.o.below.size;simp;omega) ?_;intro fu aI w3 hO3 hG3 _)
        obtain⟨p,hp⟩:=HP.o.push HB.o (k:=l.length) _ _ _ (by omega) (by omega) (fun e=>absurd rfl e) (by omega) (Nat.le_refl _) hO3 hG3;go_ret;exact⟨ps++[p],fu,aI,by rw[List.length_append];rfl,(by rw[hlf] at hp;exact hp),by rw[List.length_append,JW.o];rfl⟩
      . go_wp2_with (at_builtin;refine aK rfl (.tmp 38) (.tmp 42) 63 rfl w.heap.size 31 i0 (.slice none 0 0) 1 24 underlying63 Hi.o gQ.o gK.o gT.o rfl (by decide) rfl (HP.o.own.alloc _) rfl (cu.made _ _ 1 _ _) rfl (fun u hu=>by simp at hu;subst hu;rfl) (by omega) (by omega) (by have:=HP.o.below.size;simp;omega) ?_;intro fu aI w3 hO3 hG3 _)
        obtain⟨p,hp⟩:=HP.o.push HB.o (k:=l.length) _ _ _ (by omega) (by omega) (fun _=>rfl) (by omega) (Nat.le_refl _) hO3 hG3;go_ret;exact⟨ps++[p],fu,aI,by rw[List.length_append];rfl,hp,by rw[List.length_append,JW.o];rfl⟩
end Go.Proofs.YtjmndjmhjleabaaGreatDoor