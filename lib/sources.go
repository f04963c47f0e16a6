package lib

// What several programs begin with: to print a text, to say that something was refused, and the calls of the kernel by their numbers.
const common = `
int say(char *s) {
	while (s[0]) {
		put(s[0]);
		s = s + 1;
	}
}
int refused() {
	say("?\n");
	return 1;
}
int shut(int f) {
	return sys(8, f, 0, 0);
}
int look(char *path) {
	return sys(7, path, 0, 0);
}
`

const echo = `
int main() {
	int i = 1;
	while (i < args()) {
		if (i > 1) put(' ');
		say(arg(i));
		i = i + 1;
	}
	put('\n');
}
`

// A write may take fewer bytes than it is given; what can't be written is lost.
const cat = `
char row[64];
int copy(int f) {
	while (1) {
		int n = sys(5, f, row, 64);
		if (n <= 0) return 0;
		int i = 0;
		while (i < n) {
			int m = sys(6, 1, row + i, n - i);
			if (m <= 0) break;
			i = i + m;
		}
	}
}
int main() {
	if (args() < 2) return copy(0);
	int i = 1;
	while (i < args()) {
		int f = look(arg(i));
		if (f < 0) {
			say("cat: ");
			say(arg(i));
			return refused();
		}
		copy(f);
		shut(f);
		i = i + 1;
	}
}
`

const wc = `
char row[64];
int number(int n) {
	if (n > 9) number(n / 10);
	put('0' + n % 10);
}
int main() {
	int f = 0;
	if (args() > 1) {
		f = look(arg(1));
		if (f < 0) return refused();
	}
	int lines = 0;
	int words = 0;
	int bytes = 0;
	int within = 0;
	while (1) {
		int n = sys(5, f, row, 64);
		if (n <= 0) break;
		bytes = bytes + n;
		int i = 0;
		while (i < n) {
			int c = row[i];
			lines = lines + (c == '\n');
			int is = c != ' ' && c != '\n';
			words = words + (is > within);
			within = is;
			i = i + 1;
		}
	}
	number(lines);
	put(' ');
	number(words);
	put(' ');
	number(bytes);
	put('\n');
}
`

const rm = `
int main() {
	int i = 1;
	while (i < args()) {
		if (sys(19, arg(i), 0, 0) < 0) return refused();
		i = i + 1;
	}
}
`

const mkdir = `
int main() {
	if (args() != 2 || sys(17, arg(1), 0, 0) < 0) return refused();
}
`

const ln = `
int main() {
	if (args() != 3 || sys(18, arg(1), arg(2), 0) < 0) return refused();
}
`

// An entry is 16 bytes: two of a number, which are 0 if it is free, and a name with noughts behind, up to 14. The first one is passed over.
const ls = `
char entry[17];
int main() {
	char *path = ".";
	if (args() > 1) path = arg(1);
	int f = look(path);
	if (f < 0) return refused();
	sys(5, f, entry, 16);
	while (sys(5, f, entry, 16) == 16) {
		if (entry[0] || entry[1]) {
			say(entry + 2);
			put('\n');
		}
	}
}
`

// A command has eleven words: its arguments and a 0, its input, its output. A child's side of a pipe is the descriptor that the pipe's end takes the place of, 2: there is no pipe.
const sh = `
char line[80];
int words[22];
int ends[2];
int pids[2]; // of the children that are waited for
int reap() {
	int p = sys(3, 0, 0, 0);
	if (p == pids[0]) pids[0] = 0;
	if (p == pids[1]) pids[1] = 0;
	return p;
}
int child(int *own, int side) {
	int p = sys(2, 0, 0, 0);
	while (p == -4 && reap() > 0) p = sys(2, 0, 0, 0); // those that others left may have ended, and stand in the way
	if (p < 0) return 0;
	if (p) return p;
	if (side < 2) {
		shut(ends[1 - side]);
		shut(side);
		sys(9, ends[side], 0, 0);
		shut(ends[side]);
	}
	if (own[9]) {
		shut(0);
		sys(7, own[9], 0, 0);
	}
	if (own[10]) {
		shut(1);
		if (!sys(7, own[10], 7, 0)) { // 0 is closed, too: that is not its place
			sys(9, 0, 0, 0);
			shut(0);
		}
	}
	sys(10, own[0], own, 0);
	refused();
	exit(127);
}
int split(int n) {
	int i = 0;
	while (i < 22) {
		words[i] = 0;
		i = i + 1;
	}
	line[n] = 0;
	int first = 0; // of the command's words
	int count = 0;
	int mark = 0;
	int within = 0;
	i = 0;
	while (i < n) {
		int c = line[i];
		if (c == ' ' || c == '|' || c == '<' || c == '>') {
			line[i] = 0;
			within = 0;
			if (c == '|') {
				if (first) break;
				first = 11;
				count = 0;
				mark = 0;
			} else if (c != ' ') mark = c;
		} else if (!within) {
			within = 1;
			if (mark) words[first + 9 + (mark == '>')] = adr(line + i);
			else if (count < 8) {
				words[first + count] = adr(line + i);
				count = count + 1;
			}
			mark = 0;
		}
		i = i + 1;
	}
	return first;
}
int read() {
	int n = 0;
	while (1) {
		int c = get();
		if (c < 0) exit(0);
		if (c == '\n') return n;
		if (n < 78) {
			line[n] = c;
			n = n + 1;
		}
	}
}
int main() {
	while (1) {
		say("$ ");
		int second = split(read());
		if (!words[0]) continue;
		if (!second && line[0] == 'c' && line[1] == 'd') {
			sys(16, words[1], 0, 0);
			continue;
		}
		pids[1] = 0;
		if (second) {
			if (sys(4, ends, 0, 0) < 0) {
				refused();
				continue;
			}
			pids[0] = child(words, 1);
			pids[1] = child(words + 11, 0);
			shut(ends[0]);
			shut(ends[1]);
		} else pids[0] = child(words, 2);
		while (pids[0] || pids[1]) if (reap() < 0) break;
	}
}
`
