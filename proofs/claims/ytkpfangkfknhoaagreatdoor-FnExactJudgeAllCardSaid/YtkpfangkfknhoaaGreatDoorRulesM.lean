/-
  The contracts of impl.instrRules and impl.instrsFit. No condition.
-/
import Derived.Test.YtkpfangkfknhoaaGreatDoorSInstrM
import Derived.Test.YtkpfangkfknhoaaGreatDoorNumberM
import Derived.Deep.RegionHeld
set_option maxRecDepth 100000
set_option maxHeartbeats 8000000
namespace Go.Proofs.YtkpfangkfknhoaaGreatDoor
open Go.Proofs.Tryz
open Go.RowKit
def insB (xs:List In)(i:Nat)(n1 n2:Nat):Bool:=match xs with
 | []=>true
 | x :: xs=>Zaz x i n1 n2 && insB xs (i+1) n1 n2
theorem ZfG (a:List In)(i n1 n2:Nat)(x:In)(h:a[i]? = some x):insB (a.drop i) i n1 n2=(Zaz x i n1 n2 && insB (a.drop (i+1)) (i+1) n1 n2):=by
 obtain ⟨b,c⟩:=List.getElem?_eq_some_iff.1 h;rw [List.drop_eq_getElem_cons b,c];rfl
def ZfM:Array Value:=#[.nilFunc,.func (.func 181) #[] #[],.func (.func 182) #[] #[],.func (.func 183) #[] #[],.func (.func 184) #[] #[],.func (.func 184) #[] #[],.func (.func 185) #[] #[],.func (.func 186) #[] #[],.func (.func 187) #[] #[],.func (.func 187) #[] #[]]
theorem ZcF {P:Program}(w:World)(d:Nat)(t:TypeId)(c rs:Array TypeId)(v:Bool)(f:Fn)(a b:Array Value)(h:P.underlying t=some (.func c rs v)):(Op.equalIn (d+1) t (.func f a b) .nilFunc).run P w=.ok false w:=by
 simp [Op.equalIn,run_underlying h]
theorem ZcI {P:Program}(w:World)(d:Nat)(t:TypeId)(a rs:Array TypeId)(v:Bool)(h:P.underlying t=some (.func a rs v)):(Op.equalIn (d+1) t .nilFunc .nilFunc).run P w=.ok true w:=by
 simp [Op.equalIn,run_underlying h]
theorem ZeL (f:Fn)(a b:Array Value)(w:World):Sem.run prog (binOp .eql 226 (.func f a b) .nilFunc) w=.ok (.bool false) w:=by
 have h:(Op.equal 226 (.func f a b) .nilFunc).run prog w=.ok false w:=ZcF w 9999 _ _ _ _ f a b underlying226;simp only [binOp];simp [h]
theorem ZiV (w:World):Sem.run prog (binOp .eql 226 .nilFunc .nilFunc) w=.ok (.bool true) w:=by
 have h:(Op.equal 226 .nilFunc .nilFunc).run prog w=.ok true w:=ZcI w 9999 _ _ _ _ underlying226;simp only [binOp];simp [h]
theorem ZeD:ZfM.all (·.oneCell')=true:=by simp [ZfM,Value.oneCell']
theorem Zn2:(prog.info? 227).map (·.size)=some 10:=by kernel_rfl
theorem Zeb (w:World):Calls prog 153 #[] w fun e d=>e=.returned (.agg ZfM)/\Below w.heap.size w d:=by
 go_enter func153,ntmps153
 go_wp2_with (refine Zai rfl 227 _ _ rfl w.heap.size ZfM rfl rfl 227 _ (co _ _) Zn2 rfl ZeD ?_)
 intro g a b f;have c:Below w.heap.size w g:=((cj _ _).alloc (ce _) _).trans b;go_wp2;exact cx (results_cell_row rfl _ _ w.heap.size 227 _ (0,0) _ rfl a underlying227 rfl Zn2) rfl ⟨rfl,c⟩
theorem ZaZ {w wr b:World}{o:Obj}(a:Below w.heap.size w wr)(c:Below (wr.alloc o).drew.heap.size (wr.alloc o).drew b):Below w.heap.size w b :=
 ((a.alloc a.size o).drew).trans (c.mono (((a.alloc a.size o).drew).size))
theorem Zbi {a wr b:World}{o:Obj}(c:Below a.heap.size a wr)(d:Below (wr.alloc o).drew.heap.size (wr.alloc o).drew b):Below a.heap.size a b:=ZaZ c d
theorem Zbw {wr a:World}{cs:Array Value}{t:TypeId}{z r:Nat}{u0 u1 u2 u3 k e l f:Value}(j:Below (wr.alloc (Obj.cells cs t)).drew.heap.size (wr.alloc (Obj.cells cs t)).drew a)(d:z < wr.heap.size)(s:r < wr.heap.size)(n:Nat)(w:cs[0]? = some u0)(u:cs[1]? = some u1)(q:cs[2]? = some u2)(B:cs[3]? = some u3)(x:wr.cell? ⟨z,0,none⟩=some k)(o:wr.cell? ⟨z,0+1,none⟩=some e)(m:wr.cell? ⟨z,0+2,none⟩=some l)(A:wr.cell? ⟨r,n,none⟩=some f) :
  a.cell? ⟨wr.heap.size,0,none⟩=some u0/\a.cell? ⟨wr.heap.size,1,none⟩=some u1/\a.cell? ⟨wr.heap.size,2,none⟩=some u2/\a.cell? ⟨wr.heap.size,3,none⟩=some u3/\a.cell? ⟨z,0,none⟩=some k/\a.cell? ⟨z,1,none⟩=some e/\a.cell? ⟨z,2,none⟩=some l/\a.cell? ⟨r,n,none⟩=some f:=by
 have b:a.heap[wr.heap.size]? = some (Obj.cells cs t):=(j.block _ (by simp)).trans (co _ _)
 have c:∀ (g i:Nat) (v:Value),g < wr.heap.size -> wr.cell? ⟨g,i,none⟩=some v -> a.cell? ⟨g,i,none⟩=some v:=fun g i v y h=>by
  rw [j.cell (p:=⟨g,i,none⟩) (by simp;omega)]
  show (wr.alloc (Obj.cells cs t)).cell? ⟨g,i,none⟩=some v
  rw [World.cell?_alloc_lt _ _ _ y];exact h
 exact ⟨by rw [cd a _ 0 _ _ _ b];exact w,by rw [cd a _ 1 _ _ _ b];exact u,by rw [cd a _ 2 _ _ _ b];exact q,by rw [cd a _ 3 _ _ _ b];exact B,c z 0 _ d x,c z 1 _ d o,c z 2 _ d m,c r n _ s A⟩
theorem Zfk (G H:Option Addr)(n1 c1 F c3:Nat)(v2:Value)(is:List In)(w:World)(R:InRow w v2 is) :
  Calls prog 121 #[.agg #[.slice G n1 c1,v2,.slice H F c3]] w fun e a=>e=.returned (.bool (decide (is.length <= 400) && insB is 0 n1 is.length))/\Below w.heap.size w a:=by
 have am:=R;obtain ⟨a2,c2,rfl,ai,hm,hz,z⟩:=R
 by_cases hl:is.length <= 400
 ·have E:Hid (decide (is.length <= 400)=true):=by unfold Hid;simp [hl]
  go_enter func121,ntmps121
  have W:Below w.heap.size w (w.alloc (Obj.cells #[.slice G n1 c1,.slice a2 is.length c2,.slice H F c3] 44)):=(cj _ _).alloc (ce _) _;go_wp2_with fail;refine (Zeb _).mono ?_;rintro e y ⟨rfl,U⟩;have T:y.heap[w.heap.size]? = some (.cells #[.slice G n1 c1,.slice a2 is.length c2,.slice H F c3] 44 (0,0)):=(U.block _ (by simp)).trans (co _ _);have V:=W.trans (U.mono W.size);have ab:=(bl T);clear W U
  go_wp2_with (refine Zai rfl 227 _ _ rfl y.heap.size ZfM rfl rfl 227 _ (co _ _) Zn2 rfl ZeD ?_)
  intro Q Z S Y;have X:=(S.block _ (by simpa using ab)).trans ((cz _ _ ab).trans T);have ac:Below w.heap.size w Q:=V.trans ((((cj _ _).alloc (ce _) _).trans S).mono V.size);have ad:Q.heap.size=y.heap.size+1:=by simpa using Y
  have N:y.heap.size < Q.heap.size:=by omega
  have P:w.heap.size < Q.heap.size:=by omega
  have ag:Q.cell? ⟨w.heap.size,0+1,none⟩=some (.slice a2 is.length c2):=by rw [cd Q _ 1 _ _ _ X];rfl
  clear T S Y ad V;go_wp2_with fail
  go_loopw [14] (fun i wr=>∃ k:Nat,k <= is.length/\i=.int .i64 k/\Hid (insB is 0 n1 is.length=insB (is.drop k) k n1 is.length)/\Below Q.heap.size Q wr) (fun i _=>is.length - (intOf i).toNat)
  case atStart=>exact ⟨0,by omega,rfl,rfl,cj _ _⟩
  case round =>
   obtain ⟨k,hk,rfl,HK,I⟩:=hrel;have D:=ac.trans (I.mono ac.size)
   by_cases aa:k < is.length
   ·obtain ⟨g,o,rfl,hg,z⟩:=z (by intro e;subst e;simp at aa)
    obtain ⟨x,hx⟩:∃ x,is[k]? = some x:=⟨is[k],by simp [aa]⟩;obtain ⟨J,L,M,K⟩:=(z k x hx).below D hg;have ae:=hz x (List.mem_of_getElem? hx);have j:Hid (insB is 0 n1 is.length=(Zaz x k n1 is.length && insB (is.drop (k+1)) (k+1) n1 is.length)):=by unfold Hid;rw [HK.out,ZfG is k n1 is.length x hx]
    have v:=(I.block _ P).trans X;have l:=(I.block _ N).trans Z;have af:=I.size;clear z hx HK X Z ag;have C:wr.cell? ⟨w.heap.size,0,none⟩=some (.slice G n1 c1):=by rw [cd wr _ 0 _ _ _ v];rfl
    have B:wr.cell? ⟨w.heap.size,0+1,none⟩=some (.slice (some ⟨g,o,none⟩) is.length c2):=by rw [cd wr _ 1 _ _ _ v];rfl
    have A:wr.cell? ⟨w.heap.size,0+2,none⟩=some (.slice H F c3):=by rw [cd wr _ 2 _ _ _ v];rfl
    obtain ⟨n,h,f,d⟩:=x;have hc:n < 0 \/ 10 <= n \/ n=0 \/ n=1 \/ n=2 \/ n=3 \/ n=4 \/ n=5 \/ n=6 \/ n=7 \/ n=8 \/ n=9:=by omega
    dsimp only at J L M K ae
    have q:w.heap.size < wr.heap.size:=cy P af;have p:y.heap.size < wr.heap.size:=cy N af;have aj:=ZeL;have al:=ZiV;rcases hc with hc | hc | rfl | rfl | rfl | rfl | rfl | rfl | rfl | rfl | rfl | rfl
    ·have u:Hid (insB is 0 n1 is.length=false):=by unfold Hid;rw [j.out];simp [Zaz,show ¬ n=1 by omega,show ¬ n=2 by omega,show ¬ n=3 by omega,show ¬ n=4 by omega,show ¬ n=5 by omega,show ¬ n=6 by omega,show ¬ n=7 by omega,show ¬ n=8 by omega,show ¬ n=9 by omega]
     have ah:decide (n < 0)=true:=by simp [hc]
     clear j;go_wp2_with fail
     go_quiet (fail)
     all_goals
      go_wp2;go_ret;exact ⟨by rw [E.out,u.out];rfl,(D.alloc D.size _).trans ⟨rfl,rfl,rfl,ce _,fun _ _=>rfl⟩⟩
    ·have u:Hid (insB is 0 n1 is.length=false):=by unfold Hid;rw [j.out];simp [Zaz,show ¬ n=1 by omega,show ¬ n=2 by omega,show ¬ n=3 by omega,show ¬ n=4 by omega,show ¬ n=5 by omega,show ¬ n=6 by omega,show ¬ n=7 by omega,show ¬ n=8 by omega,show ¬ n=9 by omega]
     have ah:decide (n < 0)=false:=by simp;omega
     have ak:decide (10 <= n)=true:=by simp [hc]
     clear j;go_wp2_with fail
     go_quiet (fail)
     all_goals
      go_wp2;go_ret;exact ⟨by rw [E.out,u.out];rfl,(D.alloc D.size _).trans ⟨rfl,rfl,rfl,ce _,fun _ _=>rfl⟩⟩
    ·have u:Hid (insB is 0 n1 is.length=false):=by unfold Hid;rw [j.out];simp [Zaz]
     have r:wr.cell? ⟨y.heap.size,0,none⟩=some .nilFunc:=by rw [cd wr _ 0 _ _ _ l];rfl
     clear j;go_wp2_with fail
     go_quiet (fail)
     all_goals
      go_wp2;go_ret;exact ⟨by rw [E.out,u.out];rfl,(D.alloc D.size _).trans ⟨rfl,rfl,rfl,ce _,fun _ _=>rfl⟩⟩
    ·have t:Hid (Zaz ⟨1,h,f,d⟩ k n1 is.length=litB ⟨1,h,f,d⟩ n1):=by unfold Hid;simp [Zaz]
     have r:wr.cell? ⟨y.heap.size,1,none⟩=some (.func (.func 181) #[] #[]):=by rw [cd wr _ 1 _ _ _ l];rfl
     rw [t.out] at j;clear t l v;go_wp2_with fail
     go_region_held (fun a=>a.cell? ⟨wr.heap.size,0,none⟩=some (.int .i64 1)/\a.cell? ⟨wr.heap.size,1,none⟩=some (.int .i64 h)/\a.cell? ⟨wr.heap.size,2,none⟩=some (.int .i64 f)/\a.cell? ⟨wr.heap.size,3,none⟩=some (.string d)/\a.cell? ⟨w.heap.size,0,none⟩=some (.slice G n1 c1)/\a.cell? ⟨w.heap.size,1,none⟩=some (.slice (some ⟨g,o,none⟩) is.length c2)/\a.cell? ⟨w.heap.size,2,none⟩=some (.slice H F c3)/\a.cell? ⟨y.heap.size,1,none⟩=some (.func (.func 181) #[] #[])) (first | exact s | go_keep) (first
      | (go_at_call 181;refine (ZjG ⟨1,h,f,d⟩ _ _ _ _ _ _ _ _ _ _ _).mono ?_;rintro e O ⟨rfl,c⟩;have m:=ZaZ D c;have s:=Zbw c q p 1 rfl rfl rfl rfl C B A r))
     all_goals
      generalize litB ⟨1,h,f,d⟩ n1=b at j;clear s C B A r J L M K;cases b with
      | false =>
       have u:Hid (insB is 0 n1 is.length=false):=by unfold Hid;rw [j.out];rfl
       go_wp2;go_ret;exact ⟨by rw [E.out,u.out];rfl,m⟩
      | true =>
       go_wp2
       go_roundw
       case rel=>exact ⟨k+1,by omega,by go_num,(by unfold Hid;rw [j.out,Bool.true_and]),Zbi I c⟩
       case measure=>simp [intOf];omega
    ·have t:Hid (Zaz ⟨2,h,f,d⟩ k n1 is.length=varB ⟨2,h,f,d⟩):=by unfold Hid;simp [Zaz]
     have r:wr.cell? ⟨y.heap.size,2,none⟩=some (.func (.func 182) #[] #[]):=by rw [cd wr _ 2 _ _ _ l];rfl
     rw [t.out] at j;clear t l v;go_wp2_with fail
     go_region_held (fun a=>a.cell? ⟨wr.heap.size,0,none⟩=some (.int .i64 2)/\a.cell? ⟨wr.heap.size,1,none⟩=some (.int .i64 h)/\a.cell? ⟨wr.heap.size,2,none⟩=some (.int .i64 f)/\a.cell? ⟨wr.heap.size,3,none⟩=some (.string d)/\a.cell? ⟨w.heap.size,0,none⟩=some (.slice G n1 c1)/\a.cell? ⟨w.heap.size,1,none⟩=some (.slice (some ⟨g,o,none⟩) is.length c2)/\a.cell? ⟨w.heap.size,2,none⟩=some (.slice H F c3)/\a.cell? ⟨y.heap.size,2,none⟩=some (.func (.func 182) #[] #[])) (first | exact s | go_keep) (first
      | (go_at_call 182;refine (Zj4 ⟨2,h,f,d⟩ _ _ _ _ _ _ _ _ _ _ _).mono ?_;rintro e O ⟨rfl,c⟩;have m:=ZaZ D c;have s:=Zbw c q p 2 rfl rfl rfl rfl C B A r))
     all_goals
      generalize varB ⟨2,h,f,d⟩=b at j;clear s C B A r J L M K;cases b with
      | false =>
       have u:Hid (insB is 0 n1 is.length=false):=by unfold Hid;rw [j.out];rfl
       go_wp2;go_ret;exact ⟨by rw [E.out,u.out];rfl,m⟩
      | true =>
       go_wp2
       go_roundw
       case rel=>exact ⟨k+1,by omega,by go_num,(by unfold Hid;rw [j.out,Bool.true_and]),Zbi I c⟩
       case measure=>simp [intOf];omega
    ·have t:Hid (Zaz ⟨3,h,f,d⟩ k n1 is.length=Zba ⟨3,h,f,d⟩):=by unfold Hid;simp [Zaz]
     have r:wr.cell? ⟨y.heap.size,3,none⟩=some (.func (.func 183) #[] #[]):=by rw [cd wr _ 3 _ _ _ l];rfl
     rw [t.out] at j;clear t l v;go_wp2_with fail
     go_region_held (fun a=>a.cell? ⟨wr.heap.size,0,none⟩=some (.int .i64 3)/\a.cell? ⟨wr.heap.size,1,none⟩=some (.int .i64 h)/\a.cell? ⟨wr.heap.size,2,none⟩=some (.int .i64 f)/\a.cell? ⟨wr.heap.size,3,none⟩=some (.string d)/\a.cell? ⟨w.heap.size,0,none⟩=some (.slice G n1 c1)/\a.cell? ⟨w.heap.size,1,none⟩=some (.slice (some ⟨g,o,none⟩) is.length c2)/\a.cell? ⟨w.heap.size,2,none⟩=some (.slice H F c3)/\a.cell? ⟨y.heap.size,3,none⟩=some (.func (.func 183) #[] #[])) (first | exact s | go_keep) (first
      | (go_at_call 183;refine (Zf8 ⟨3,h,f,d⟩ _ _ _ _ _ _ _ _ _ _ _ ae).mono ?_;rintro e O ⟨rfl,c⟩;have m:=ZaZ D c;have s:=Zbw c q p 3 rfl rfl rfl rfl C B A r))
     all_goals
      generalize Zba ⟨3,h,f,d⟩=b at j;clear s C B A r J L M K;cases b with
      | false =>
       have u:Hid (insB is 0 n1 is.length=false):=by unfold Hid;rw [j.out];rfl
       go_wp2;go_ret;exact ⟨by rw [E.out,u.out];rfl,m⟩
      | true =>
       go_wp2
       go_roundw
       case rel=>exact ⟨k+1,by omega,by go_num,(by unfold Hid;rw [j.out,Bool.true_and]),Zbi I c⟩
       case measure=>simp [intOf];omega
    ·have t:Hid (Zaz ⟨4,h,f,d⟩ k n1 is.length=wayB ⟨4,h,f,d⟩ k is.length):=by unfold Hid;simp [Zaz]
     have r:wr.cell? ⟨y.heap.size,4,none⟩=some (.func (.func 184) #[] #[]):=by rw [cd wr _ 4 _ _ _ l];rfl
     rw [t.out] at j;clear t l v;go_wp2_with fail
     go_region_held (fun a=>a.cell? ⟨wr.heap.size,0,none⟩=some (.int .i64 4)/\a.cell? ⟨wr.heap.size,1,none⟩=some (.int .i64 h)/\a.cell? ⟨wr.heap.size,2,none⟩=some (.int .i64 f)/\a.cell? ⟨wr.heap.size,3,none⟩=some (.string d)/\a.cell? ⟨w.heap.size,0,none⟩=some (.slice G n1 c1)/\a.cell? ⟨w.heap.size,1,none⟩=some (.slice (some ⟨g,o,none⟩) is.length c2)/\a.cell? ⟨w.heap.size,2,none⟩=some (.slice H F c3)/\a.cell? ⟨y.heap.size,4,none⟩=some (.func (.func 184) #[] #[])) (first | exact s | go_keep) (first
      | (go_at_call 184;refine (ZfZ ⟨4,h,f,d⟩ _ _ _ _ _ _ _ _ _ _ _).mono ?_;rintro e O ⟨rfl,c⟩;have m:=ZaZ D c;have s:=Zbw c q p 4 rfl rfl rfl rfl C B A r))
     all_goals
      generalize wayB ⟨4,h,f,d⟩ k is.length=b at j;clear s C B A r J L M K;cases b with
      | false =>
       have u:Hid (insB is 0 n1 is.length=false):=by unfold Hid;rw [j.out];rfl
       go_wp2;go_ret;exact ⟨by rw [E.out,u.out];rfl,m⟩
      | true =>
       go_wp2
       go_roundw
       case rel=>exact ⟨k+1,by omega,by go_num,(by unfold Hid;rw [j.out,Bool.true_and]),Zbi I c⟩
       case measure=>simp [intOf];omega
    ·have t:Hid (Zaz ⟨5,h,f,d⟩ k n1 is.length=wayB ⟨5,h,f,d⟩ k is.length):=by unfold Hid;simp [Zaz]
     have r:wr.cell? ⟨y.heap.size,5,none⟩=some (.func (.func 184) #[] #[]):=by rw [cd wr _ 5 _ _ _ l];rfl
     rw [t.out] at j;clear t l v;go_wp2_with fail
     go_region_held (fun a=>a.cell? ⟨wr.heap.size,0,none⟩=some (.int .i64 5)/\a.cell? ⟨wr.heap.size,1,none⟩=some (.int .i64 h)/\a.cell? ⟨wr.heap.size,2,none⟩=some (.int .i64 f)/\a.cell? ⟨wr.heap.size,3,none⟩=some (.string d)/\a.cell? ⟨w.heap.size,0,none⟩=some (.slice G n1 c1)/\a.cell? ⟨w.heap.size,1,none⟩=some (.slice (some ⟨g,o,none⟩) is.length c2)/\a.cell? ⟨w.heap.size,2,none⟩=some (.slice H F c3)/\a.cell? ⟨y.heap.size,5,none⟩=some (.func (.func 184) #[] #[])) (first | exact s | go_keep) (first
      | (go_at_call 184;refine (ZfZ ⟨5,h,f,d⟩ _ _ _ _ _ _ _ _ _ _ _).mono ?_;rintro e O ⟨rfl,c⟩;have m:=ZaZ D c;have s:=Zbw c q p 5 rfl rfl rfl rfl C B A r))
     all_goals
      generalize wayB ⟨5,h,f,d⟩ k is.length=b at j;clear s C B A r J L M K;cases b with
      | false =>
       have u:Hid (insB is 0 n1 is.length=false):=by unfold Hid;rw [j.out];rfl
       go_wp2;go_ret;exact ⟨by rw [E.out,u.out];rfl,m⟩
      | true =>
       go_wp2
       go_roundw
       case rel=>exact ⟨k+1,by omega,by go_num,(by unfold Hid;rw [j.out,Bool.true_and]),Zbi I c⟩
       case measure=>simp [intOf];omega
    ·have t:Hid (Zaz ⟨6,h,f,d⟩ k n1 is.length=funB ⟨6,h,f,d⟩ k is.length):=by unfold Hid;simp [Zaz]
     have r:wr.cell? ⟨y.heap.size,6,none⟩=some (.func (.func 185) #[] #[]):=by rw [cd wr _ 6 _ _ _ l];rfl
     rw [t.out] at j;clear t l v;go_wp2_with fail
     go_region_held (fun a=>a.cell? ⟨wr.heap.size,0,none⟩=some (.int .i64 6)/\a.cell? ⟨wr.heap.size,1,none⟩=some (.int .i64 h)/\a.cell? ⟨wr.heap.size,2,none⟩=some (.int .i64 f)/\a.cell? ⟨wr.heap.size,3,none⟩=some (.string d)/\a.cell? ⟨w.heap.size,0,none⟩=some (.slice G n1 c1)/\a.cell? ⟨w.heap.size,1,none⟩=some (.slice (some ⟨g,o,none⟩) is.length c2)/\a.cell? ⟨w.heap.size,2,none⟩=some (.slice H F c3)/\a.cell? ⟨y.heap.size,6,none⟩=some (.func (.func 185) #[] #[])) (first | exact s | go_keep) (first
      | (go_at_call 185;refine (Zjs ⟨6,h,f,d⟩ _ _ _ _ _ _ _ _ _ _ _).mono ?_;rintro e O ⟨rfl,c⟩;have m:=ZaZ D c;have s:=Zbw c q p 6 rfl rfl rfl rfl C B A r))
     all_goals
      generalize funB ⟨6,h,f,d⟩ k is.length=b at j;clear s C B A r J L M K;cases b with
      | false =>
       have u:Hid (insB is 0 n1 is.length=false):=by unfold Hid;rw [j.out];rfl
       go_wp2;go_ret;exact ⟨by rw [E.out,u.out];rfl,m⟩
      | true =>
       go_wp2
       go_roundw
       case rel=>exact ⟨k+1,by omega,by go_num,(by unfold Hid;rw [j.out,Bool.true_and]),Zbi I c⟩
       case measure=>simp [intOf];omega
    ·have t:Hid (Zaz ⟨7,h,f,d⟩ k n1 is.length=ZcR ⟨7,h,f,d⟩):=by unfold Hid;simp [Zaz]
     have r:wr.cell? ⟨y.heap.size,7,none⟩=some (.func (.func 186) #[] #[]):=by rw [cd wr _ 7 _ _ _ l];rfl
     rw [t.out] at j;clear t l v;go_wp2_with fail
     go_region_held (fun a=>a.cell? ⟨wr.heap.size,0,none⟩=some (.int .i64 7)/\a.cell? ⟨wr.heap.size,1,none⟩=some (.int .i64 h)/\a.cell? ⟨wr.heap.size,2,none⟩=some (.int .i64 f)/\a.cell? ⟨wr.heap.size,3,none⟩=some (.string d)/\a.cell? ⟨w.heap.size,0,none⟩=some (.slice G n1 c1)/\a.cell? ⟨w.heap.size,1,none⟩=some (.slice (some ⟨g,o,none⟩) is.length c2)/\a.cell? ⟨w.heap.size,2,none⟩=some (.slice H F c3)/\a.cell? ⟨y.heap.size,7,none⟩=some (.func (.func 186) #[] #[])) (first | exact s | go_keep) (first
      | (go_at_call 186;refine (Zib ⟨7,h,f,d⟩ _ _ _ _ _ _ _ _ _ _ _).mono ?_;rintro e O ⟨rfl,c⟩;have m:=ZaZ D c;have s:=Zbw c q p 7 rfl rfl rfl rfl C B A r))
     all_goals
      generalize ZcR ⟨7,h,f,d⟩=b at j;clear s C B A r J L M K;cases b with
      | false =>
       have u:Hid (insB is 0 n1 is.length=false):=by unfold Hid;rw [j.out];rfl
       go_wp2;go_ret;exact ⟨by rw [E.out,u.out];rfl,m⟩
      | true =>
       go_wp2
       go_roundw
       case rel=>exact ⟨k+1,by omega,by go_num,(by unfold Hid;rw [j.out,Bool.true_and]),Zbi I c⟩
       case measure=>simp [intOf];omega
    ·have t:Hid (Zaz ⟨8,h,f,d⟩ k n1 is.length=Zca ⟨8,h,f,d⟩):=by unfold Hid;simp [Zaz]
     have r:wr.cell? ⟨y.heap.size,8,none⟩=some (.func (.func 187) #[] #[]):=by rw [cd wr _ 8 _ _ _ l];rfl
     rw [t.out] at j;clear t l v;go_wp2_with fail
     go_region_held (fun a=>a.cell? ⟨wr.heap.size,0,none⟩=some (.int .i64 8)/\a.cell? ⟨wr.heap.size,1,none⟩=some (.int .i64 h)/\a.cell? ⟨wr.heap.size,2,none⟩=some (.int .i64 f)/\a.cell? ⟨wr.heap.size,3,none⟩=some (.string d)/\a.cell? ⟨w.heap.size,0,none⟩=some (.slice G n1 c1)/\a.cell? ⟨w.heap.size,1,none⟩=some (.slice (some ⟨g,o,none⟩) is.length c2)/\a.cell? ⟨w.heap.size,2,none⟩=some (.slice H F c3)/\a.cell? ⟨y.heap.size,8,none⟩=some (.func (.func 187) #[] #[])) (first | exact s | go_keep) (first
      | (go_at_call 187;refine (ZeF ⟨8,h,f,d⟩ _ _ _ _ _ _ _ _ _ _ _).mono ?_;rintro e O ⟨rfl,c⟩;have m:=ZaZ D c;have s:=Zbw c q p 8 rfl rfl rfl rfl C B A r))
     all_goals
      generalize Zca ⟨8,h,f,d⟩=b at j;clear s C B A r J L M K;cases b with
      | false =>
       have u:Hid (insB is 0 n1 is.length=false):=by unfold Hid;rw [j.out];rfl
       go_wp2;go_ret;exact ⟨by rw [E.out,u.out];rfl,m⟩
      | true =>
       go_wp2
       go_roundw
       case rel=>exact ⟨k+1,by omega,by go_num,(by unfold Hid;rw [j.out,Bool.true_and]),Zbi I c⟩
       case measure=>simp [intOf];omega
    ·have t:Hid (Zaz ⟨9,h,f,d⟩ k n1 is.length=Zca ⟨9,h,f,d⟩):=by unfold Hid;simp [Zaz]
     have r:wr.cell? ⟨y.heap.size,9,none⟩=some (.func (.func 187) #[] #[]):=by rw [cd wr _ 9 _ _ _ l];rfl
     rw [t.out] at j;clear t l v;go_wp2_with fail
     go_region_held (fun a=>a.cell? ⟨wr.heap.size,0,none⟩=some (.int .i64 9)/\a.cell? ⟨wr.heap.size,1,none⟩=some (.int .i64 h)/\a.cell? ⟨wr.heap.size,2,none⟩=some (.int .i64 f)/\a.cell? ⟨wr.heap.size,3,none⟩=some (.string d)/\a.cell? ⟨w.heap.size,0,none⟩=some (.slice G n1 c1)/\a.cell? ⟨w.heap.size,1,none⟩=some (.slice (some ⟨g,o,none⟩) is.length c2)/\a.cell? ⟨w.heap.size,2,none⟩=some (.slice H F c3)/\a.cell? ⟨y.heap.size,9,none⟩=some (.func (.func 187) #[] #[])) (first | exact s | go_keep) (first
      | (go_at_call 187;refine (ZeF ⟨9,h,f,d⟩ _ _ _ _ _ _ _ _ _ _ _).mono ?_;rintro e O ⟨rfl,c⟩;have m:=ZaZ D c;have s:=Zbw c q p 9 rfl rfl rfl rfl C B A r))
     all_goals
      generalize Zca ⟨9,h,f,d⟩=b at j;clear s C B A r J L M K;cases b with
      | false =>
       have u:Hid (insB is 0 n1 is.length=false):=by unfold Hid;rw [j.out];rfl
       go_wp2;go_ret;exact ⟨by rw [E.out,u.out];rfl,m⟩
      | true =>
       go_wp2
       go_roundw
       case rel=>exact ⟨k+1,by omega,by go_num,(by unfold Hid;rw [j.out,Bool.true_and]),Zbi I c⟩
       case measure=>simp [intOf];omega
   ·have u:Hid (insB is 0 n1 is.length=true):=by unfold Hid;rw [HK.out,List.drop_eq_nil_of_le (by omega)];rfl
    clear HK z;go_wp2;go_ret;exact ⟨by rw [E.out,u.out];rfl,D⟩
 ·have E:Hid (decide (is.length <= 400)=false):=by unfold Hid;simp [hl]
  go_enter func121,ntmps121
  go_wp2;go_ret;exact ⟨by rw [E.out];rfl,(cj _ _).alloc (ce _) _⟩
end Go.Proofs.YtkpfangkfknhoaaGreatDoor
